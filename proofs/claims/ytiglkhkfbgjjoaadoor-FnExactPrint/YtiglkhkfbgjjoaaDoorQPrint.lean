/- 'laws.FnExactPrint' holds at every input: impl.Print answers as the model's Print at every tree, and writes nothing into it. As its tied card: impl.opTexts, impl.turnTexts and three tables of Go's own library are as the program's text lays them. -/
import Derived.Test.YtiglkhkfbgjjoaaDoorRows
import Derived.Test.YtiglkhkfbgjjoaaDoorTie
import Derived.Test.YtiglkhkfbgjjoaaDoorCards
import Derived.Test.YtiglkhkfbgjjoaaDoorQPrL
import Derived.Test.YtiglkhkfbgjjoaaDoorQTrO
import Derived.ProofKit
import Derived.OpenShut
import Derived.ShutString
import Derived.ChangeOld
import Derived.ChangeVars
import Derived.OpenVars
import Derived.MakeChecks
import Derived.LaidLaws
import Derived.Lib.LaidTab
import Derived.SevenTiedAt
namespace Go.Proofs.YtiglkhkfbgjjoaaDoor
set_option maxRecDepth 20000
open Go.ChangeShapes Go.WideShapes Go.ChangeAt Go.RowKit Go.Joins
set_option linter.unusedVariables false
theorem ze7 {w V : World} {B : Nat} (h : zbt w) (hb : Below B w V) (hB : 4 < B) : zbt V := by
 refine ⟨Nat.lt_of_lt_of_le h.sz hb.size, fun n hn => ?_, fun n hn => ?_, ?_⟩
 · rw [hb.cell (p := ⟨1, n, none⟩) (by dsimp only; omega)]; exact h.op n hn
 · rw [hb.cell (p := ⟨2, n, none⟩) (by dsimp only; omega)]; exact h.tn n hn
 · have hg : Tryd.prog.globalNamed "internal/strconv.uint64pow10" = some 4 := by kernel_rfl
   have := h.tab
   unfold Lib.TabIs World.var? at this ⊢
   rw [hg] at this ⊢
   simp only [Option.bind_some] at this ⊢
   rw [hb.block 4 hB]
   exact this
def zav (w : World) : Prop := zbt w /\ 4 < w.heap.size
theorem zcb (a1 : Option Addr) (L1 c1 : Nat) (p1 : Int) (X : Nat -> KnD) (w : World) (hs1 : KnF w.heap.size w (.slice a1 L1 c1) L1 X) (m1 : L1 <= 9223372036854775807) (hX : ∀ j, j < L1 -> (X j).len <= 9223372036854775807 /\ (X j).t.size <= 9223372036854775807) (hw1 : (Lit.int .i64 p1).wf = true) (hM : zav w) :
 Calls Tryd.prog 5 #[.agg #[.slice a1 L1 c1, .int .i64 p1]] w fun e w' => e = .returned (.bool true) /\ Below w.heap.size w w' :=
 zgl a1 c1 L1 p1 X w hs1 m1 hX (fun V hV => ze7 hM.1 hV hM.2)
theorem zgi : Tryd.prog.cellsOf 9 = 1 := by kernel_rfl
theorem zey {W : World} {name : String} {g n f : Nat} {t : TypeId} {cs : Array Value} {p : List MemPlace} (P : List ByteArray) (hn : P.length = n) (hg : Tryd.prog.globalNamed name = some g) (hu : Tryd.prog.underlying t = some (.array n 9)) (hv : W.var? Tryd.prog name = some cs) (hd : DataW.trod (fun _ => ()) Tryd.prog W 0 (fun _ => true) false f t cs.toList = some (.agg (P.map fun m => DataW.lit (.string m.data.toList)), p)) :
 ∀ i, i < n -> W.cell? ⟨g, i, none⟩ = some (.string (P.getD i ⟨#[]⟩)) := fun i hi => by
 obtain ⟨xs, m1, _, hx1, hlen, hnn, hel⟩ := DataW.trod_array hu hd
 simp only [Prod.mk.injEq, DataW.agg.injEq] at hx1
 have h1 := hel i hi
 rw [zgi, Nat.mul_one] at h1
 have h2 : i < xs.length := by omega
 rw [List.getElem?_eq_getElem h2] at h1
 obtain ⟨s, e1, e2, _⟩ := DataW.trod_string Tryd.underlying9 h1
 have e3 : (xs.map (·.1))[i]? = (P.map fun m => (DataW.lit (.string m.data.toList) : DataW Unit))[i]? := by rw [<- hx1.1]
 have h3 : i < P.length := by omega
 rw [List.getElem?_map, List.getElem?_map, List.getElem?_eq_getElem h2, List.getElem?_eq_getElem h3, e2] at e3
 simp only [Option.map_some, Option.some.injEq, DataW.lit.injEq, Lit.string.injEq] at e3
 have es : s = P[i] := ByteArray.ext (Array.toList_inj.1 e3)
 have e5 : P.getD i ⟨#[]⟩ = P[i] := by rw [List.getD_eq_getElem?_getD, List.getElem?_eq_getElem h3]; rfl
 rw [World.var?_cell hg hv i, e5, <- es]
 have e4 : (cs.toList.drop i).head? = some (.string s) := by
  cases hd : cs.toList.drop i with
  | nil => rw [hd] at e1; simp at e1
  | cons a l => rw [hd] at e1; simp at e1; simp [e1]
 rw [List.head?_drop] at e4
 simpa using e4
theorem gOp : Tryd.prog.globalNamed "loop.example/g00101/impl.opTexts" = some 1 := by kernel_rfl
theorem gTn : Tryd.prog.globalNamed "loop.example/g00101/impl.turnTexts" = some 2 := by kernel_rfl
theorem gPw : Tryd.prog.globalNamed "internal/strconv.uint64pow10" = some 4 := by kernel_rfl
theorem tOp : (Tryd.prog.globals[1]?).map (·.type) = some 160 := by kernel_rfl
theorem tTn : (Tryd.prog.globals[2]?).map (·.type) = some 161 := by kernel_rfl
theorem tPw : (Tryd.prog.globals[4]?).map (·.type) = some 181 := by kernel_rfl
theorem uOp : Tryd.prog.underlying 160 = some (.array 11 9) := by kernel_rfl
theorem uTn : Tryd.prog.underlying 161 = some (.array 4 9) := by kernel_rfl
theorem uPw : Tryd.prog.underlying 181 = some (.array 20 174) := by kernel_rfl
theorem dOp : (Rows.laid_loop_example_g00101_impl_opTexts : DataW Unit) = .agg (opL.map fun m => DataW.lit (.string m.data.toList)) := by rfl
theorem dTn : (Rows.laid_loop_example_g00101_impl_turnTexts : DataW Unit) = .agg (tnL.map fun m => DataW.lit (.string m.data.toList)) := by rfl
theorem dPw : (Rows.laid_internal_strconv_uint64pow10 : DataW Unit) = Lib.tabData .u64 Lib.pow10Tab := by rfl
theorem zdx {W : World} {ps : List MemPlace} (h : DataW.LaidVars Tryd.prog W Rows.fnExactPrintRow.laid ps) : zav W := by
 obtain ⟨_, _, _, _, _, _, _, _, _, _, ⟨_, _, _, _, _, _, _, _, _, _, ⟨g3, t3, cs3, f3, p3, q3, hg3, ht3, hv3, hd3, ⟨g0, t0, cs0, f0, p0, q0, hg0, ht0, hv0, hd0, ⟨g1, t1, cs1, f1, p1, q1, hg1, ht1, hv1, hd1, _, _⟩, _⟩, _⟩, _⟩, _⟩ := h
 obtain rfl := Option.some.inj (gOp.symm.trans hg0)
 obtain rfl := Option.some.inj (tOp.symm.trans ht0)
 obtain rfl := Option.some.inj (gTn.symm.trans hg1)
 obtain rfl := Option.some.inj (tTn.symm.trans ht1)
 obtain rfl := Option.some.inj (gPw.symm.trans hg3)
 obtain rfl := Option.some.inj (tPw.symm.trans ht3)
 rw [dOp] at hd0
 rw [dTn] at hd1
 rw [dPw] at hd3
 have c0 := zey (n := 11) opL rfl gOp uOp hv0 hd0
 have c1 := zey (n := 4) tnL rfl gTn uTn hv1 hd1
 have c3 : Lib.TabIs Tryd.prog W "internal/strconv.uint64pow10" .u64 Lib.pow10Tab := by
  unfold Lib.TabIs
  rw [hv3, <- Lib.cells_of_tab uPw Tryd.underlying174 (by kernel_rfl) (by kernel_rfl) hd3]
 have z1 := World.block_lt_of_cell? _ _ (c1 0 (by omega))
 have z3 := World.block_lt_of_cell? _ _ (c3.cell gPw 0 (by decide))
 exact ⟨⟨z1, c0, c1, c3⟩, z3⟩
theorem own : ownKnob Tryd.prog.godebug = none := by kernel_rfl
theorem laidOut : laidOutB Tryd.prog = true := by kernel_rfl
def zbl (A : Array Value) : Obj -> Obj
 | .cells _ t frozen => .cells A t frozen
 | o => o
theorem zfk : (Rows.fnExactPrintRow.laid.all fun x => x.2.handleName?.isNone) = true := by kernel_rfl
theorem ze8 {W : World} (h : laidMetH Tryd.prog Rows.fnExactPrintRow.laid W) : zav W := by
 rw [MakeChecks.laidMetH_plain _ _ _ zfk] at h
 obtain ⟨ps, h, _, _⟩ := h
 exact zdx h
theorem zgj (os : Os) (args : Array Value) : laidMetH Tryd.prog Rows.fnExactPrintRow.laid (({ World.holding Tryd.prog os ⟨#[], #[], []⟩ with heap := ((((((World.holding Tryd.prog os ⟨#[], #[], []⟩).heap.modify 5 (zbl #[.int .u8 0, .int .u8 1, .int .u8 28, .int .u8 2, .int .u8 29, .int .u8 14, .int .u8 24, .int .u8 3, .int .u8 30, .int .u8 22, .int .u8 20, .int .u8 15, .int .u8 25, .int .u8 17, .int .u8 4, .int .u8 8, .int .u8 31, .int .u8 27, .int .u8 13, .int .u8 23, .int .u8 21, .int .u8 19, .int .u8 16, .int .u8 7, .int .u8 26, .int .u8 12, .int .u8 18, .int .u8 6, .int .u8 11, .int .u8 5, .int .u8 10, .int .u8 9])).modify 6 (zbl #[.int .u8 0, .int .u8 1, .int .u8 56, .int .u8 2, .int .u8 57, .int .u8 49, .int .u8 28, .int .u8 3, .int .u8 61, .int .u8 58, .int .u8 42, .int .u8 50, .int .u8 38, .int .u8 29, .int .u8 17, .int .u8 4, .int .u8 62, .int .u8 47, .int .u8 59, .int .u8 36, .int .u8 45, .int .u8 43, .int .u8 51, .int .u8 22, .int .u8 53, .int .u8 39, .int .u8 33, .int .u8 30, .int .u8 24, .int .u8 18, .int .u8 12, .int .u8 5, .int .u8 63, .int .u8 55, .int .u8 48, .int .u8 27, .int .u8 60, .int .u8 41, .int .u8 37, .int .u8 16, .int .u8 46, .int .u8 35, .int .u8 44, .int .u8 21, .int .u8 52, .int .u8 32, .int .u8 23, .int .u8 11, .int .u8 54, .int .u8 26, .int .u8 40, .int .u8 15, .int .u8 34, .int .u8 20, .int .u8 31, .int .u8 10, .int .u8 25, .int .u8 14, .int .u8 19, .int .u8 9, .int .u8 13, .int .u8 8, .int .u8 7, .int .u8 6])).modify 4 (zbl #[.int .u64 1, .int .u64 10, .int .u64 100, .int .u64 1000, .int .u64 10000, .int .u64 100000, .int .u64 1000000, .int .u64 10000000, .int .u64 100000000, .int .u64 1000000000, .int .u64 10000000000, .int .u64 100000000000, .int .u64 1000000000000, .int .u64 10000000000000, .int .u64 100000000000000, .int .u64 1000000000000000, .int .u64 10000000000000000, .int .u64 100000000000000000, .int .u64 1000000000000000000, .int .u64 10000000000000000000])).modify 1 (zbl #[.string ⟨#[]⟩, .string ⟨#[43]⟩, .string ⟨#[45]⟩, .string ⟨#[42]⟩, .string ⟨#[47]⟩, .string ⟨#[37]⟩, .string ⟨#[46, 46]⟩, .string ⟨#[61, 61]⟩, .string ⟨#[126, 61]⟩, .string ⟨#[60]⟩, .string ⟨#[60, 61]⟩])).modify 2 (zbl #[.string ⟨#[]⟩, .string ⟨#[45]⟩, .string ⟨#[110, 111, 116]⟩, .string ⟨#[35]⟩])) } : World).forCall (fun _ _ => 0) ⟨#[], args, []⟩).memory := by
 rw [MakeChecks.laidMetH_plain _ _ _ zfk]
 exact laidMet_of_run (ps := [.cell 5 0, .cell 5 1, .cell 5 2, .cell 5 3, .cell 5 4, .cell 5 5, .cell 5 6, .cell 5 7, .cell 5 8, .cell 5 9, .cell 5 10, .cell 5 11, .cell 5 12, .cell 5 13, .cell 5 14, .cell 5 15, .cell 5 16, .cell 5 17, .cell 5 18, .cell 5 19, .cell 5 20, .cell 5 21, .cell 5 22, .cell 5 23, .cell 5 24, .cell 5 25, .cell 5 26, .cell 5 27, .cell 5 28, .cell 5 29, .cell 5 30, .cell 5 31, .cell 6 0, .cell 6 1, .cell 6 2, .cell 6 3, .cell 6 4, .cell 6 5, .cell 6 6, .cell 6 7, .cell 6 8, .cell 6 9, .cell 6 10, .cell 6 11, .cell 6 12, .cell 6 13, .cell 6 14, .cell 6 15, .cell 6 16, .cell 6 17, .cell 6 18, .cell 6 19, .cell 6 20, .cell 6 21, .cell 6 22, .cell 6 23, .cell 6 24, .cell 6 25, .cell 6 26, .cell 6 27, .cell 6 28, .cell 6 29, .cell 6 30, .cell 6 31, .cell 6 32, .cell 6 33, .cell 6 34, .cell 6 35, .cell 6 36, .cell 6 37, .cell 6 38, .cell 6 39, .cell 6 40, .cell 6 41, .cell 6 42, .cell 6 43, .cell 6 44, .cell 6 45, .cell 6 46, .cell 6 47, .cell 6 48, .cell 6 49, .cell 6 50, .cell 6 51, .cell 6 52, .cell 6 53, .cell 6 54, .cell 6 55, .cell 6 56, .cell 6 57, .cell 6 58, .cell 6 59, .cell 6 60, .cell 6 61, .cell 6 62, .cell 6 63, .cell 4 0, .cell 4 1, .cell 4 2, .cell 4 3, .cell 4 4, .cell 4 5, .cell 4 6, .cell 4 7, .cell 4 8, .cell 4 9, .cell 4 10, .cell 4 11, .cell 4 12, .cell 4 13, .cell 4 14, .cell 4 15, .cell 4 16, .cell 4 17, .cell 4 18, .cell 4 19, .cell 1 0, .cell 1 1, .cell 1 2, .cell 1 3, .cell 1 4, .cell 1 5, .cell 1 6, .cell 1 7, .cell 1 8, .cell 1 9, .cell 1 10, .cell 2 0, .cell 2 1, .cell 2 2, .cell 2 3]) 8 (by kernel_rfl) (by kernel_rfl) (by kernel_rfl)
theorem zbx {H : Type} {enc : TypeId × Value -> H} {P : Program} {w : World} {spare : Nat -> Bool} : ∀ {ns : List String} {gs : List (DataW H)} {ps : List MemPlace}, DataW.TrodVars enc P w spare ns gs ps -> gs.length = ns.length
 | [], [], _, _ => rfl
 | [], _ :: _, _, h => h.elim
 | _ :: _, [], _, h => h.elim
 | _ :: _, _ :: _, _, h => by
   obtain ⟨g, t, cs, fuel, p, q, _, _, _, _, hs, _⟩ := h
   simp [zbx hs]
set_option maxRecDepth 100000 in
theorem lifted (os : Os) (started : os.Started) (H : Type) (enc : TypeId × Value -> H) :
 ReturnsInHanded {} Tryd.checked os 5 .any (fun w args => (Rows.fnExactPrintSpec.pre enc Tryd.prog Tryd.f5 [] false w args /\ laidMetH Tryd.prog Rows.fnExactPrintRow.laid w) /\ sizedMet enc Tryd.prog Tryd.f5 (OpenSpec.ofChange Rows.fnExactPrintSpec) false w args) (Rows.fnExactPrintSpec.post enc Tryd.prog Tryd.f5 false true false false) := by
 refine returnsInHanded_of_change_and (C := Tryd.checked) (X := fun w _ => laidMetH Tryd.prog Rows.fnExactPrintRow.laid w) (fun _ _ _ hh h => h.of_heap hh) own started (by kernel_rfl) Tryd.func5
  (ChangeSpec.witness_at (enc := enc) (C := Tryd.checked) (os := os) (X := fun w _ => laidMetH Tryd.prog Rows.fnExactPrintRow.laid w) false { World.holding Tryd.prog os ⟨#[], #[], []⟩ with heap := ((((((World.holding Tryd.prog os ⟨#[], #[], []⟩).heap.modify 5 (zbl #[.int .u8 0, .int .u8 1, .int .u8 28, .int .u8 2, .int .u8 29, .int .u8 14, .int .u8 24, .int .u8 3, .int .u8 30, .int .u8 22, .int .u8 20, .int .u8 15, .int .u8 25, .int .u8 17, .int .u8 4, .int .u8 8, .int .u8 31, .int .u8 27, .int .u8 13, .int .u8 23, .int .u8 21, .int .u8 19, .int .u8 16, .int .u8 7, .int .u8 26, .int .u8 12, .int .u8 18, .int .u8 6, .int .u8 11, .int .u8 5, .int .u8 10, .int .u8 9])).modify 6 (zbl #[.int .u8 0, .int .u8 1, .int .u8 56, .int .u8 2, .int .u8 57, .int .u8 49, .int .u8 28, .int .u8 3, .int .u8 61, .int .u8 58, .int .u8 42, .int .u8 50, .int .u8 38, .int .u8 29, .int .u8 17, .int .u8 4, .int .u8 62, .int .u8 47, .int .u8 59, .int .u8 36, .int .u8 45, .int .u8 43, .int .u8 51, .int .u8 22, .int .u8 53, .int .u8 39, .int .u8 33, .int .u8 30, .int .u8 24, .int .u8 18, .int .u8 12, .int .u8 5, .int .u8 63, .int .u8 55, .int .u8 48, .int .u8 27, .int .u8 60, .int .u8 41, .int .u8 37, .int .u8 16, .int .u8 46, .int .u8 35, .int .u8 44, .int .u8 21, .int .u8 52, .int .u8 32, .int .u8 23, .int .u8 11, .int .u8 54, .int .u8 26, .int .u8 40, .int .u8 15, .int .u8 34, .int .u8 20, .int .u8 31, .int .u8 10, .int .u8 25, .int .u8 14, .int .u8 19, .int .u8 9, .int .u8 13, .int .u8 8, .int .u8 7, .int .u8 6])).modify 4 (zbl #[.int .u64 1, .int .u64 10, .int .u64 100, .int .u64 1000, .int .u64 10000, .int .u64 100000, .int .u64 1000000, .int .u64 10000000, .int .u64 100000000, .int .u64 1000000000, .int .u64 10000000000, .int .u64 100000000000, .int .u64 1000000000000, .int .u64 10000000000000, .int .u64 100000000000000, .int .u64 1000000000000000, .int .u64 10000000000000000, .int .u64 100000000000000000, .int .u64 1000000000000000000, .int .u64 10000000000000000000])).modify 1 (zbl #[.string ⟨#[]⟩, .string ⟨#[43]⟩, .string ⟨#[45]⟩, .string ⟨#[42]⟩, .string ⟨#[47]⟩, .string ⟨#[37]⟩, .string ⟨#[46, 46]⟩, .string ⟨#[61, 61]⟩, .string ⟨#[126, 61]⟩, .string ⟨#[60]⟩, .string ⟨#[60, 61]⟩])).modify 2 (zbl #[.string ⟨#[]⟩, .string ⟨#[45]⟩, .string ⟨#[110, 111, 116]⟩, .string ⟨#[35]⟩])) } #[.agg #[.slice none 0 0, .int .i64 0]] 8 rfl (by kernel_rfl) (by kernel_rfl) (by kernel_rfl) (by kernel_rfl) (by kernel_rfl) (zgj os _)) ?_
 intro W base args ds gs before hval0 hW _ _ hL _
 have hval : ∀ (j : Nat) t v, Tryd.f5.params[j]? = some t -> args[j]? = some v -> Value.okWide Tryd.prog W .any base t v := hval0
 have hW' := hW
 obtain ⟨p, q, hA0, hV, rfl, hfz, hnd⟩ := hW
 have hA : DataW.TrodAll enc Tryd.prog W 0 (fun _ => true) true Tryd.f5.params.toList args.toList ds p := hA0
 rw [Tryd.params5] at hA hval
 obtain ⟨v0, vs0, d0, ds0, p0, q0, hargs, rfl, rfl, h0, r0⟩ := trodAll_cons hA
 obtain ⟨rfl, rfl, rfl⟩ := trodAll_nil r0
 obtain rfl : args = #[v0] := by cases args; simp_all
 have hV1 : DataW.TrodVars enc Tryd.prog W (fun _ => true) ["loop.example/g00101/impl.opTexts", "loop.example/g00101/impl.turnTexts"] gs q := hV
 have hgl := zbx hV1
 match gs, hgl with
 | [gd0, gd1], _ =>
 have k0 := h0
 have lt0 : ∀ x ∈ p0, x.block < W.heap.size := by obtain ⟨m, hm⟩ := k0; exact DataW.trod_lt m _ _ _ hm
 obtain ⟨aa0, na0, ca0, tp0, X0, rfl, w0a, w0b, w0c, w0d⟩ := zgg (hval 0 35 v0 rfl rfl) h0
 clear hA0 hval0
 refine (zcb aa0 na0 ca0 tp0 X0 W w0a w0b w0c w0d (ze8 hL)).mono fun e W' ⟨he, bel⟩ => ?_
 subst he
 exact ⟨_, rfl, _, _, _, [], _, _, hW', trodAll_mk1 (shut_bool Tryd.underlying4 _), (trodAll_cons_mk (Below.trod laidOut (by kernel_rfl) (of_decide_eq_true (by kernel_rfl)) k0 bel lt0) trodAll_mk0), Below.trodVars laidOut bel (by kernel_rfl) hV1, bel.frame _, fun h => by cases h⟩
theorem zaz {a b : Bool} (ha : a = true) (hb : b = true) : (a && b) = true := by rw [ha, hb]; rfl
theorem zjv : (Rows.fnExactPrintRow.inPlace == Tryd.prog.inPlace 5) = true := by kernel_rfl
theorem zil : (Rows.fnExactPrintRow.unfollowed == Tryd.prog.unfollowed 5) = true := by kernel_rfl
theorem zim : (Rows.fnExactPrintRow.recurses == Tryd.prog.recurses 5) = true := by kernel_rfl
theorem zin : (Rows.fnExactPrintRow.named == Tryd.prog.varsNamed 5) = true := by kernel_rfl
theorem zb5 : ∀ (w rest : List Char), (∀ c ∈ w, c ≠ Char.ofNat 32) -> wordsSigns (w ++ Char.ofNat 32 :: rest) = w :: wordsSigns rest
 | [], rest, _ => rfl
 | c :: w, rest, h => by
   rw [List.cons_append, wordsSigns.eq_3 _ _ (fun e => h c (List.mem_cons_self ..) e), zb5 w rest (fun x hx => h x (List.mem_cons_of_mem _ hx))]
theorem zcc : ∃ ws, wordsSigns Tryd.prog.initOrder.toList = List.map Char.ofNat [104, 97, 114, 110, 101, 115, 115] :: List.map Char.ofNat [54, 53, 57, 98, 50, 48, 55, 52, 55, 101, 50, 52, 102, 102, 48, 55, 53, 54, 101, 55, 100, 53, 49, 55, 100, 99, 53, 49, 53, 99, 52, 54, 48, 55, 99, 52, 99, 56, 56, 99, 100, 57, 49, 52, 99, 52, 98, 102, 102, 98, 100, 50, 56, 99, 56, 102, 102, 52, 49, 51, 57, 102, 53, 56] :: List.map Char.ofNat [99, 117, 116] :: ws := by
 have h : Tryd.prog.initOrder = String.ofList (List.map Char.ofNat [104, 97, 114, 110, 101, 115, 115] ++ Char.ofNat 32 :: (List.map Char.ofNat [54, 53, 57, 98, 50, 48, 55, 52, 55, 101, 50, 52, 102, 102, 48, 55, 53, 54, 101, 55, 100, 53, 49, 55, 100, 99, 53, 49, 53, 99, 52, 54, 48, 55, 99, 52, 99, 56, 56, 99, 100, 57, 49, 52, 99, 52, 98, 102, 102, 98, 100, 50, 56, 99, 56, 102, 102, 52, 49, 51, 57, 102, 53, 56] ++ Char.ofNat 32 :: (List.map Char.ofNat [99, 117, 116] ++ Char.ofNat 32 :: List.map Char.ofNat [97, 116, 32, 108, 111, 111, 112, 46, 101, 120, 97, 109, 112, 108, 101, 47, 103, 48, 48, 49, 48, 49, 47, 108, 97, 119, 115, 46, 70, 110, 69, 120, 97, 99, 116, 76, 101, 120, 32, 108, 111, 111, 112, 46, 101, 120, 97, 109, 112, 108, 101, 47, 103, 48, 48, 49, 48, 49, 47, 108, 97, 119, 115, 46, 70, 110, 76, 101, 120, 65, 103, 97, 105, 110, 32, 108, 111, 111, 112, 46, 101, 120, 97, 109, 112, 108, 101, 47, 103, 48, 48, 49, 48, 49, 47, 108, 97, 119, 115, 46, 70, 110, 69, 120, 97, 99, 116, 80, 114, 105, 110, 116, 32, 108, 111, 111, 112, 46, 101, 120, 97, 109, 112, 108, 101, 47, 103, 48, 48, 49, 48, 49, 47, 108, 97, 119, 115, 46, 70, 110, 66, 105, 110, 100, 115, 32, 108, 111, 111, 112, 46, 101, 120, 97, 109, 112, 108, 101, 47, 103, 48, 48, 49, 48, 49, 47, 108, 97, 119, 115, 46, 70, 110, 69, 120, 97, 99, 116, 80, 97, 114, 115, 101]))) := by kernel_rfl
 rw [h, String.toList_ofList, zb5 _ _ (by decide +kernel), zb5 _ _ (by decide +kernel), zb5 _ _ (by decide +kernel)]
 exact ⟨_, rfl⟩
theorem zio : List.map Char.ofNat [99, 117, 116] = "cut".toList := by decide +kernel
theorem zdj : ∃ ws, behindMainWord (wordsSigns Tryd.prog.initOrder.toList) = "cut".toList :: ws := by
 obtain ⟨ws, h⟩ := zcc
 refine ⟨ws, ?_⟩
 rw [h, <- zio]
 kernel_rfl
theorem zfl (ws : List (List Char)) : stripLifts liftWords ("cut".toList :: ws) = ([], "cut".toList :: ws) := by kernel_rfl
theorem zgk {P : Program} {ws : List (List Char)} (h : behindMainWord (wordsSigns P.initOrder.toList) = "cut".toList :: ws) : P.make = some .cut := by
 unfold Program.make
 rw [h]
 kernel_rfl
theorem zfm {P : Program} {ws : List (List Char)} (h : behindMainWord (wordsSigns P.initOrder.toList) = "cut".toList :: ws) (h1 : P.laysLater = false) (h2 : P.bearsReflect = false) (h3 : P.doorFits [] = true) : P.mayEnter = true := by
 unfold Program.mayEnter
 rw [h]
 simp only [zfl, h1, h2, h3]
 kernel_rfl
theorem zip : Tryd.prog.mayEnter = true := by
 obtain ⟨ws, h⟩ := zdj
 exact zfm h (by kernel_rfl) (by kernel_rfl) (by kernel_rfl)
theorem ziq : (Rows.fnExactPrintRow.lifted == Tryd.prog.liftsFinal) = true := by obtain ⟨ws, h⟩ := zcc; unfold Program.liftsFinal Program.headLifts; rw [h]; kernel_rfl
theorem zir : (Tryd.prog.make == some Rows.fnExactPrintRow.make) = true := by
 obtain ⟨ws, h⟩ := zdj
 rw [zgk h]
 kernel_rfl
theorem zkf : joinedFacts Tryd.prog 5 Tryd.f5 Rows.fnExactPrintSpec Rows.fnExactPrintRow = true := by
 unfold joinedFacts
 iterate 4 refine zaz ?_ (by kernel_rfl)
 refine zaz (zaz (zaz ?_ zip) ziq) zir
 iterate 12 refine zaz ?_ (by kernel_rfl)
 exact zaz (zaz (zaz (zaz (by kernel_rfl) zjv) zil) zim) zin
theorem over : Rows.fnExactPrintRow.holds Tryd.pinned (OpenSpec.ofChange Rows.fnExactPrintSpec) :=
 OpenClaim.holds_of_wide 5 Tryd.f5 rfl rfl rfl rfl rfl rfl rfl ⟨rfl, rfl, rfl, rfl, rfl⟩ rfl rfl rfl rfl rfl (by kernel_rfl) Tryd.func5 zkf
  (of_decide_eq_true (by kernel_rfl)) (by unfold Func.isWrapper; first | (rw [if_pos (by decide +kernel)]; kernel_rfl) | (rw [if_neg (by decide +kernel)]; exact ⟨rfl, rfl⟩))
  (fun os started H enc _ => lifted os started H enc)
theorem zgh : Rows.FnExactPrintSaid := over
theorem zfn : Tryd.prog.mainIs = some (true, "659b20747e24ff0756e7d517dc515c4607c4c88cd914c4bffbd28c8ff4139f58".toList) := by kernel_rfl
theorem ze9 : true = Tryd.prog.looks [] := by kernel_rfl
theorem zfo : false = Rows.fnExactPrintRow.goesBy Tryd.prog := by kernel_rfl
theorem zfp : Tryd.prog.funcNamed "loop.example/g00101/laws.FnExactPrint" = some 5 := by kernel_rfl
theorem zhf : Rows.fnExactPrintRow.wfByText (OpenSpec.ofChange Rows.fnExactPrintSpec) = true := by kernel_rfl
theorem fnExactPrint_holds : Rows.FnExactPrintCardSaid :=
 Claim7.holds_tied_plain_at .later [] [.data, .data, .data, .data, .data] true (true, "659b20747e24ff0756e7d517dc515c4607c4c88cd914c4bffbd28c8ff4139f58") true
  over (fun _ h => by cases h) zhf (fun _ h => by cases h) fnExactPrint_row_tie rfl ⟨rfl, rfl⟩ zfn rfl
  (fun f fn hf hfn => by
    obtain rfl : f = 5 := (Option.some.inj (zfp.symm.trans hf)).symm
    obtain rfl : fn = Tryd.f5 := (Option.some.inj (Tryd.func5.symm.trans hfn)).symm
    exact ⟨ze9, fun j t ht => by
     rw [Tryd.params5] at ht
     match j with
     | 0 => simp at ht; subst ht; exact (show Tryd.prog.wantsStandIn 35 = false by kernel_rfl)
     | j + 1 => simp at ht⟩)
  zfo
#print axioms fnExactPrint_holds
end Go.Proofs.YtiglkhkfbgjjoaaDoor
