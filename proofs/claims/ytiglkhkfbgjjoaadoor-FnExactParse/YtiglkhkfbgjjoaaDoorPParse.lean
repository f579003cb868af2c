/- 'laws.FnExactParse' holds at every input: impl.Parse answers as the model's Parse at every text, every field, and its answer owns its memory. As its tied card: impl.marks, impl.opTexts and impl.turnTexts are as the program's text lays them. -/
import Derived.Test.YtiglkhkfbgjjoaaDoorRows
import Derived.Test.YtiglkhkfbgjjoaaDoorTie
import Derived.Test.YtiglkhkfbgjjoaaDoorCards
import Derived.Test.YtiglkhkfbgjjoaaDoorPPcE
import Derived.WalkKit
import Derived.WalkSpells
import Derived.WalkLawsBesides
import Derived.ProofKit
import Derived.OpenShut
import Derived.ShutString
import Derived.ChangeOld
import Derived.ChangeVars
import Derived.OpenVars
import Derived.MakeChecks
import Derived.LaidLaws
import Derived.Below
import Derived.Lib.SmallJoins
import Derived.Lib.LaidTab
import Derived.SevenTiedAt
namespace Go.Proofs.YtiglkhkfbgjjoaaDoor
set_option maxRecDepth 20000
open Go.ChangeShapes Go.WideShapes Go.ChangeAt Go.RowKit Go.Joins
set_option linter.unusedVariables false

def FnExactParseTabs (w : World) : Prop := MkV w ∧ TabR w.heap.size w
theorem fnExactParse_walk (t : ByteArray) (w : World) (ht : t.size ≤ maxLen) (hM : FnExactParseTabs w) :
    Calls Tryd.prog 7 #[.string t] w fun e w' => e = .returned (.bool true) ∧ Below w.heap.size w w' := parse_walk t w hM.1 hM.2
theorem cellsStr : Tryd.prog.cellsOf 9 = 1 := by kernel_rfl
/-- A table of texts, by its datum. -/
theorem str_tab {W : World} {name : String} {g n f : Nat} {t : TypeId} {cs : Array Value} {p : List MemPlace} (P : List ByteArray) (hn : P.length = n) (hg : Tryd.prog.globalNamed name = some g) (hu : Tryd.prog.underlying t = some (.array n 9)) (hv : W.var? Tryd.prog name = some cs) (hd : DataW.trod (fun _ => ()) Tryd.prog W 0 (fun _ => true) false f t cs.toList = some (.agg (P.map fun m => DataW.lit (.string m.data.toList)), p)) :
    ∀ i, i < n → W.cell? ⟨g, i, none⟩ = some (.string (P.getD i ⟨#[]⟩)) := fun i hi => by
  obtain ⟨xs, m1, _, hx1, hlen, hnn, hel⟩ := DataW.trod_array hu hd
  simp only [Prod.mk.injEq, DataW.agg.injEq] at hx1
  have h1 := hel i hi
  rw [cellsStr, Nat.mul_one] at h1
  have h2 : i < xs.length := by omega
  rw [List.getElem?_eq_getElem h2] at h1
  obtain ⟨s, e1, e2, _⟩ := DataW.trod_string Tryd.underlying9 h1
  have e3 : (xs.map (·.1))[i]? = (P.map fun m => (DataW.lit (.string m.data.toList) : DataW Unit))[i]? := by rw [← hx1.1]
  have h3 : i < P.length := by omega
  rw [List.getElem?_map, List.getElem?_map, List.getElem?_eq_getElem h2, List.getElem?_eq_getElem h3, e2] at e3
  simp only [Option.map_some, Option.some.injEq, DataW.lit.injEq, Lit.string.injEq] at e3
  have es : s = P[i] := ByteArray.ext (Array.toList_inj.1 e3)
  have e5 : P.getD i ⟨#[]⟩ = P[i] := by rw [List.getD_eq_getElem?_getD, List.getElem?_eq_getElem h3]; rfl
  rw [World.var?_cell hg hv i, e5, ← es]
  have e4 : (cs.toList.drop i).head? = some (.string s) := by
    cases hd : cs.toList.drop i with
    | nil => rw [hd] at e1; simp at e1
    | cons a l => rw [hd] at e1; simp at e1; simp [e1]
  rw [List.head?_drop] at e4
  simpa using e4
theorem gMk : Tryd.prog.globalNamed "loop.example/g00101/impl.marks" = some 0 := by kernel_rfl
theorem gTn : Tryd.prog.globalNamed "loop.example/g00101/impl.turnTexts" = some 2 := by kernel_rfl
theorem gOp : Tryd.prog.globalNamed "loop.example/g00101/impl.opTexts" = some 1 := by kernel_rfl
theorem tMk : (Tryd.prog.globals[0]?).map (·.type) = some 134 := by kernel_rfl
theorem tTn : (Tryd.prog.globals[2]?).map (·.type) = some 161 := by kernel_rfl
theorem tOp : (Tryd.prog.globals[1]?).map (·.type) = some 160 := by kernel_rfl
theorem uMk : Tryd.prog.underlying 134 = some (.array 21 9) := by kernel_rfl
theorem uTn : Tryd.prog.underlying 161 = some (.array 4 9) := by kernel_rfl
theorem uOp : Tryd.prog.underlying 160 = some (.array 11 9) := by kernel_rfl
theorem dMk : (Rows.laid_loop_example_g00101_impl_marks : DataW Unit) = .agg (mkP.map fun m => DataW.lit (.string m.data.toList)) := by rfl
theorem dOp : (Rows.laid_loop_example_g00101_impl_opTexts : DataW Unit) = .agg (opL.map fun m => DataW.lit (.string m.data.toList)) := by rfl
theorem dTn : (Rows.laid_loop_example_g00101_impl_turnTexts : DataW Unit) = .agg (turnL.map fun m => DataW.lit (.string m.data.toList)) := by rfl
theorem tabs_of_laid {W : World} {ps : List MemPlace} (h : DataW.LaidVars Tryd.prog W Rows.fnExactParseRow.laid ps) : FnExactParseTabs W := by
  obtain ⟨g0, t0, cs0, f0, p0, q0, hg0, ht0, hv0, hd0, ⟨g2, t2, cs2, f2, p2, q2, hg2, ht2, hv2, hd2, ⟨g1, t1, cs1, f1, p1, q1, hg1, ht1, hv1, hd1, _, _⟩, _⟩, _⟩ := h
  obtain rfl := Option.some.inj (gMk.symm.trans hg0)
  obtain rfl := Option.some.inj (tMk.symm.trans ht0)
  obtain rfl := Option.some.inj (gTn.symm.trans hg1)
  obtain rfl := Option.some.inj (tTn.symm.trans ht1)
  obtain rfl := Option.some.inj (gOp.symm.trans hg2)
  obtain rfl := Option.some.inj (tOp.symm.trans ht2)
  rw [dMk] at hd0
  rw [dTn] at hd1
  rw [dOp] at hd2
  have c0 := str_tab (n := 21) mkP rfl gMk uMk hv0 hd0
  have c1 := str_tab (n := 4) turnL rfl gTn uTn hv1 hd1
  have c2 := str_tab (n := 11) opL rfl gOp uOp hv2 hd2
  have z0 := World.block_lt_of_cell? _ _ (c0 0 (by omega))
  have z1 : 2 < W.heap.size := World.block_lt_of_cell? _ _ (c1 0 (by omega))
  have z2 : 1 < W.heap.size := World.block_lt_of_cell? _ _ (c2 0 (by omega))
  refine ⟨⟨z0, fun i hi => c0 i hi⟩, by show 3 ≤ W.heap.size; omega, fun j b e => ?_, fun j b e => ?_⟩
  · have hj : j < 4 := by have := (List.getElem?_eq_some_iff.1 e).1; simpa [turnL] using this
    rw [c1 j hj, List.getD_eq_getElem?_getD, e]
    rfl
  · have hj : j < 11 := by have := (List.getElem?_eq_some_iff.1 e).1; simpa [opL] using this
    rw [c2 j hj, List.getD_eq_getElem?_getD, e]
    rfl

theorem own : ownKnob Tryd.prog.godebug = none := by kernel_rfl
theorem laidOut : laidOutB Tryd.prog = true := by kernel_rfl

def layA (A : Array Value) : Obj → Obj
  | .cells _ t frozen => .cells A t frozen
  | o => o
theorem plainM : (Rows.fnExactParseRow.laid.all fun x => x.2.handleName?.isNone) = true := by kernel_rfl
theorem mk_of_laid {W : World} (h : laidMetH Tryd.prog Rows.fnExactParseRow.laid W) : FnExactParseTabs W := by
  rw [MakeChecks.laidMetH_plain _ _ _ plainM] at h
  obtain ⟨ps, h, _, _⟩ := h
  exact tabs_of_laid h
theorem laid_met (os : Os) (args : Array Value) : laidMetH Tryd.prog Rows.fnExactParseRow.laid (({ World.holding Tryd.prog os ⟨#[], #[], []⟩ with heap := ((((World.holding Tryd.prog os ⟨#[], #[], []⟩).heap.modify 0 (layA #[.string ⟨#[46, 46]⟩, .string ⟨#[61, 61]⟩, .string ⟨#[126, 61]⟩, .string ⟨#[60, 61]⟩, .string ⟨#[123]⟩, .string ⟨#[125]⟩, .string ⟨#[40]⟩, .string ⟨#[41]⟩, .string ⟨#[91]⟩, .string ⟨#[93]⟩, .string ⟨#[59]⟩, .string ⟨#[44]⟩, .string ⟨#[46]⟩, .string ⟨#[61]⟩, .string ⟨#[60]⟩, .string ⟨#[43]⟩, .string ⟨#[45]⟩, .string ⟨#[42]⟩, .string ⟨#[47]⟩, .string ⟨#[37]⟩, .string ⟨#[35]⟩])).modify 1 (layA #[.string ⟨#[]⟩, .string ⟨#[43]⟩, .string ⟨#[45]⟩, .string ⟨#[42]⟩, .string ⟨#[47]⟩, .string ⟨#[37]⟩, .string ⟨#[46, 46]⟩, .string ⟨#[61, 61]⟩, .string ⟨#[126, 61]⟩, .string ⟨#[60]⟩, .string ⟨#[60, 61]⟩])).modify 2 (layA #[.string ⟨#[]⟩, .string ⟨#[45]⟩, .string ⟨#[110, 111, 116]⟩, .string ⟨#[35]⟩])) } : World).forCall (fun _ _ => 0) ⟨#[], args, []⟩).memory := by
  rw [MakeChecks.laidMetH_plain _ _ _ plainM]
  exact laidMet_of_run (ps := [.cell 0 0, .cell 0 1, .cell 0 2, .cell 0 3, .cell 0 4, .cell 0 5, .cell 0 6, .cell 0 7, .cell 0 8, .cell 0 9, .cell 0 10, .cell 0 11, .cell 0 12, .cell 0 13, .cell 0 14, .cell 0 15, .cell 0 16, .cell 0 17, .cell 0 18, .cell 0 19, .cell 0 20, .cell 1 0, .cell 1 1, .cell 1 2, .cell 1 3, .cell 1 4, .cell 1 5, .cell 1 6, .cell 1 7, .cell 1 8, .cell 1 9, .cell 1 10, .cell 2 0, .cell 2 1, .cell 2 2, .cell 2 3]) 8 (by kernel_rfl) (by kernel_rfl) (by kernel_rfl)
theorem trodVars_many {H : Type} {enc : TypeId × Value → H} {P : Program} {w : World} {spare : Nat → Bool} : ∀ {ns : List String} {gs : List (DataW H)} {ps : List MemPlace}, DataW.TrodVars enc P w spare ns gs ps → gs.length = ns.length
  | [], [], _, _ => rfl
  | [], _ :: _, _, h => h.elim
  | _ :: _, [], _, h => h.elim
  | _ :: _, _ :: _, _, h => by
    obtain ⟨g, t, cs, fuel, p, q, _, _, _, _, hs, _⟩ := h
    simp [trodVars_many hs]
set_option maxRecDepth 100000 in
theorem lifted (os : Os) (started : os.Started) (H : Type) (enc : TypeId × Value → H) :
    ReturnsInHanded {} Tryd.checked os 7 .any (fun w args => (Rows.fnExactParseSpec.pre enc Tryd.prog Tryd.f7 [] false w args ∧ laidMetH Tryd.prog Rows.fnExactParseRow.laid w) ∧ sizedMet enc Tryd.prog Tryd.f7 (OpenSpec.ofChange Rows.fnExactParseSpec) false w args) (Rows.fnExactParseSpec.post enc Tryd.prog Tryd.f7 false true false false) := by
  refine returnsInHanded_of_change_and (C := Tryd.checked) (X := fun w _ => laidMetH Tryd.prog Rows.fnExactParseRow.laid w) (fun _ _ _ hh h => h.of_heap hh) own started (by kernel_rfl) Tryd.func7
    (ChangeSpec.witness_at (enc := enc) (C := Tryd.checked) (os := os) (X := fun w _ => laidMetH Tryd.prog Rows.fnExactParseRow.laid w) false { World.holding Tryd.prog os ⟨#[], #[], []⟩ with heap := ((((World.holding Tryd.prog os ⟨#[], #[], []⟩).heap.modify 0 (layA #[.string ⟨#[46, 46]⟩, .string ⟨#[61, 61]⟩, .string ⟨#[126, 61]⟩, .string ⟨#[60, 61]⟩, .string ⟨#[123]⟩, .string ⟨#[125]⟩, .string ⟨#[40]⟩, .string ⟨#[41]⟩, .string ⟨#[91]⟩, .string ⟨#[93]⟩, .string ⟨#[59]⟩, .string ⟨#[44]⟩, .string ⟨#[46]⟩, .string ⟨#[61]⟩, .string ⟨#[60]⟩, .string ⟨#[43]⟩, .string ⟨#[45]⟩, .string ⟨#[42]⟩, .string ⟨#[47]⟩, .string ⟨#[37]⟩, .string ⟨#[35]⟩])).modify 1 (layA #[.string ⟨#[]⟩, .string ⟨#[43]⟩, .string ⟨#[45]⟩, .string ⟨#[42]⟩, .string ⟨#[47]⟩, .string ⟨#[37]⟩, .string ⟨#[46, 46]⟩, .string ⟨#[61, 61]⟩, .string ⟨#[126, 61]⟩, .string ⟨#[60]⟩, .string ⟨#[60, 61]⟩])).modify 2 (layA #[.string ⟨#[]⟩, .string ⟨#[45]⟩, .string ⟨#[110, 111, 116]⟩, .string ⟨#[35]⟩])) } #[.string ⟨#[]⟩] 8 rfl (by kernel_rfl) (by kernel_rfl) (by kernel_rfl) (by kernel_rfl) (by kernel_rfl) (laid_met os _)) ?_
  intro W base args ds gs before hval0 hW _ _ hL _
  have hval : ∀ (j : Nat) t v, Tryd.f7.params[j]? = some t → args[j]? = some v → Value.okWide Tryd.prog W .any base t v := hval0
  have hW' := hW
  obtain ⟨p, q, hA0, hV, rfl, hfz, hnd⟩ := hW
  have hA : DataW.TrodAll enc Tryd.prog W 0 (fun _ => true) true Tryd.f7.params.toList args.toList ds p := hA0
  rw [Tryd.params7] at hA hval
  obtain ⟨v0, vs0, d0, ds0, p0, q0, hargs, rfl, rfl, h0, r0⟩ := trodAll_cons hA
  obtain ⟨rfl, rfl, rfl⟩ := trodAll_nil r0
  obtain rfl : args = #[v0] := by cases args; simp_all
  have hV1 : DataW.TrodVars enc Tryd.prog W (fun _ => true) ["loop.example/g00101/impl.marks", "loop.example/g00101/impl.turnTexts", "loop.example/g00101/impl.opTexts"] gs q := hV
  have hgl := trodVars_many hV1
  match gs, hgl with
  | [gd0, gd1, gd2], _ =>
  have k0 := h0
  have lt0 : ∀ x ∈ p0, x.block < W.heap.size := by obtain ⟨m, hm⟩ := k0; exact DataW.trod_lt m _ _ _ hm
  obtain ⟨a0, rfl, rfl, rfl, w0⟩ := Go.ChangeMaps.open_string Tryd.underlying9 (hval 0 9 v0 rfl rfl) h0
  clear hA0 hval0
  refine (fnExactParse_walk a0 W w0 (mk_of_laid hL)).mono fun e W' ⟨he, bel⟩ => ?_
  subst he
  exact ⟨_, rfl, _, _, _, [], _, _, hW', trodAll_mk1 (shut_bool Tryd.underlying4 _), (trodAll_cons_mk (Below.trod laidOut (by kernel_rfl) (of_decide_eq_true (by kernel_rfl)) k0 bel lt0) trodAll_mk0), Below.trodVars laidOut bel (by kernel_rfl) hV1, bel.frame _, fun h => by cases h⟩

theorem and_in {a b : Bool} (ha : a = true) (hb : b = true) : (a && b) = true := by rw [ha, hb]; rfl
theorem fits9 : (Rows.fnExactParseRow.inPlace == Tryd.prog.inPlace 7) = true := by kernel_rfl
theorem fits10 : (Rows.fnExactParseRow.unfollowed == Tryd.prog.unfollowed 7) = true := by kernel_rfl
theorem fits11 : (Rows.fnExactParseRow.recurses == Tryd.prog.recurses 7) = true := by kernel_rfl
theorem fits12 : (Rows.fnExactParseRow.named == Tryd.prog.varsNamed 7) = true := by kernel_rfl
theorem ws_word : ∀ (w rest : List Char), (∀ c ∈ w, c ≠ Char.ofNat 32) → wordsSigns (w ++ Char.ofNat 32 :: rest) = w :: wordsSigns rest
  | [], rest, _ => rfl
  | c :: w, rest, h => by
    rw [List.cons_append, wordsSigns.eq_3 _ _ (fun e => h c (List.mem_cons_self ..) e), ws_word w rest (fun x hx => h x (List.mem_cons_of_mem _ hx))]
theorem order_words : ∃ ws, wordsSigns Tryd.prog.initOrder.toList = List.map Char.ofNat [104, 97, 114, 110, 101, 115, 115] :: List.map Char.ofNat [54, 53, 57, 98, 50, 48, 55, 52, 55, 101, 50, 52, 102, 102, 48, 55, 53, 54, 101, 55, 100, 53, 49, 55, 100, 99, 53, 49, 53, 99, 52, 54, 48, 55, 99, 52, 99, 56, 56, 99, 100, 57, 49, 52, 99, 52, 98, 102, 102, 98, 100, 50, 56, 99, 56, 102, 102, 52, 49, 51, 57, 102, 53, 56] :: List.map Char.ofNat [99, 117, 116] :: ws := by
  have h : Tryd.prog.initOrder = String.ofList (List.map Char.ofNat [104, 97, 114, 110, 101, 115, 115] ++ Char.ofNat 32 :: (List.map Char.ofNat [54, 53, 57, 98, 50, 48, 55, 52, 55, 101, 50, 52, 102, 102, 48, 55, 53, 54, 101, 55, 100, 53, 49, 55, 100, 99, 53, 49, 53, 99, 52, 54, 48, 55, 99, 52, 99, 56, 56, 99, 100, 57, 49, 52, 99, 52, 98, 102, 102, 98, 100, 50, 56, 99, 56, 102, 102, 52, 49, 51, 57, 102, 53, 56] ++ Char.ofNat 32 :: (List.map Char.ofNat [99, 117, 116] ++ Char.ofNat 32 :: List.map Char.ofNat [97, 116, 32, 108, 111, 111, 112, 46, 101, 120, 97, 109, 112, 108, 101, 47, 103, 48, 48, 49, 48, 49, 47, 108, 97, 119, 115, 46, 70, 110, 69, 120, 97, 99, 116, 76, 101, 120, 32, 108, 111, 111, 112, 46, 101, 120, 97, 109, 112, 108, 101, 47, 103, 48, 48, 49, 48, 49, 47, 108, 97, 119, 115, 46, 70, 110, 76, 101, 120, 65, 103, 97, 105, 110, 32, 108, 111, 111, 112, 46, 101, 120, 97, 109, 112, 108, 101, 47, 103, 48, 48, 49, 48, 49, 47, 108, 97, 119, 115, 46, 70, 110, 69, 120, 97, 99, 116, 80, 114, 105, 110, 116, 32, 108, 111, 111, 112, 46, 101, 120, 97, 109, 112, 108, 101, 47, 103, 48, 48, 49, 48, 49, 47, 108, 97, 119, 115, 46, 70, 110, 66, 105, 110, 100, 115, 32, 108, 111, 111, 112, 46, 101, 120, 97, 109, 112, 108, 101, 47, 103, 48, 48, 49, 48, 49, 47, 108, 97, 119, 115, 46, 70, 110, 69, 120, 97, 99, 116, 80, 97, 114, 115, 101]))) := by kernel_rfl
  rw [h, String.toList_ofList, ws_word _ _ (by decide +kernel), ws_word _ _ (by decide +kernel), ws_word _ _ (by decide +kernel)]
  exact ⟨_, rfl⟩
theorem cut_is : List.map Char.ofNat [99, 117, 116] = "cut".toList := by decide +kernel
theorem order_cut : ∃ ws, behindMainWord (wordsSigns Tryd.prog.initOrder.toList) = "cut".toList :: ws := by
  obtain ⟨ws, h⟩ := order_words
  refine ⟨ws, ?_⟩
  rw [h, ← cut_is]
  kernel_rfl
theorem strip_cut (ws : List (List Char)) : stripLifts liftWords ("cut".toList :: ws) = ([], "cut".toList :: ws) := by kernel_rfl
theorem make_cut {P : Program} {ws : List (List Char)} (h : behindMainWord (wordsSigns P.initOrder.toList) = "cut".toList :: ws) : P.make = some .cut := by
  unfold Program.make
  rw [h]
  kernel_rfl
theorem enter_cut {P : Program} {ws : List (List Char)} (h : behindMainWord (wordsSigns P.initOrder.toList) = "cut".toList :: ws) (h1 : P.laysLater = false) (h2 : P.bearsReflect = false) (h3 : P.doorFits [] = true) : P.mayEnter = true := by
  unfold Program.mayEnter
  rw [h]
  simp only [strip_cut, h1, h2, h3]
  kernel_rfl
theorem fits25 : Tryd.prog.mayEnter = true := by
  obtain ⟨ws, h⟩ := order_cut
  exact enter_cut h (by kernel_rfl) (by kernel_rfl) (by kernel_rfl)
theorem fits26 : (Rows.fnExactParseRow.lifted == Tryd.prog.liftsFinal) = true := by obtain ⟨ws, h⟩ := order_words; unfold Program.liftsFinal Program.headLifts; rw [h]; kernel_rfl
theorem fits27 : (Tryd.prog.make == some Rows.fnExactParseRow.make) = true := by
  obtain ⟨ws, h⟩ := order_cut
  rw [make_cut h]
  kernel_rfl
theorem fits : joinedFacts Tryd.prog 7 Tryd.f7 Rows.fnExactParseSpec Rows.fnExactParseRow = true := by
  unfold joinedFacts
  iterate 4 refine and_in ?_ (by kernel_rfl)
  refine and_in (and_in (and_in ?_ fits25) fits26) fits27
  iterate 12 refine and_in ?_ (by kernel_rfl)
  exact and_in (and_in (and_in (and_in (by kernel_rfl) fits9) fits10) fits11) fits12
theorem over : Rows.fnExactParseRow.holds Tryd.pinned (OpenSpec.ofChange Rows.fnExactParseSpec) :=
  OpenClaim.holds_of_wide 7 Tryd.f7 rfl rfl rfl rfl rfl rfl rfl ⟨rfl, rfl, rfl, rfl, rfl⟩ rfl rfl rfl rfl rfl (by kernel_rfl) Tryd.func7 fits
    (of_decide_eq_true (by kernel_rfl)) (by unfold Func.isWrapper; first | (rw [if_pos (by decide +kernel)]; kernel_rfl) | (rw [if_neg (by decide +kernel)]; exact ⟨rfl, rfl⟩))
    (fun os started H enc _ => lifted os started H enc)

theorem fnExactParse_said : Rows.FnExactParseSaid := over
theorem card_main : Tryd.prog.mainIs = some (true, "659b20747e24ff0756e7d517dc515c4607c4c88cd914c4bffbd28c8ff4139f58".toList) := by kernel_rfl
theorem card_looks : true = Tryd.prog.looks [] := by kernel_rfl
theorem card_goes : false = Rows.fnExactParseRow.goesBy Tryd.prog := by kernel_rfl
theorem card_func : Tryd.prog.funcNamed "loop.example/g00101/laws.FnExactParse" = some 7 := by kernel_rfl
theorem card_wf : Rows.fnExactParseRow.wfByText (OpenSpec.ofChange Rows.fnExactParseSpec) = true := by kernel_rfl
theorem fnExactParse_holds : Rows.FnExactParseCardSaid :=
  Claim7.holds_tied_plain_at .later [] [.data, .data, .data] true (true, "659b20747e24ff0756e7d517dc515c4607c4c88cd914c4bffbd28c8ff4139f58") true
    over (fun _ h => by cases h) card_wf (fun _ h => by cases h) fnExactParse_row_tie rfl ⟨rfl, rfl⟩ card_main rfl
    (fun f fn hf hfn => by
      obtain rfl : f = 7 := (Option.some.inj (card_func.symm.trans hf)).symm
      obtain rfl : fn = Tryd.f7 := (Option.some.inj (Tryd.func7.symm.trans hfn)).symm
      exact ⟨card_looks, fun j t ht => by
        rw [Tryd.params7] at ht
        match j with
        | 0 => simp at ht; subst ht; exact (show Tryd.prog.wantsStandIn 9 = false by kernel_rfl)
        | j + 1 => simp at ht⟩)
    card_goes

#print axioms fnExactParse_holds
end Go.Proofs.YtiglkhkfbgjjoaaDoor
