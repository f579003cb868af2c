/- 'laws.FnParseOk' holds at every input: both packages read what is drawn alike, what is read is right, and the text twice has twice the nodes but one. As its tied card: impl.marks, impl.opTexts and impl.turnTexts are as the program's text lays them. -/
import Derived.Test.YtiglkhkfbgjjoaaGreatDoorRows
import Derived.Test.YtiglkhkfbgjjoaaGreatDoorTie
import Derived.Test.YtiglkhkfbgjjoaaGreatDoorCards
import Derived.Test.YtiglkhkfbgjjoaaGreatDoorPPfB
import Derived.ProofKit
import Derived.OpenShut
import Derived.ShutString
import Derived.ChangeOld
import Derived.ChangeVars
import Derived.OpenVars
import Derived.MakeChecks
import Derived.LaidLaws
import Derived.Lib.SmallJoins
import Derived.Lib.LaidTab
import Derived.SevenTiedAt
namespace Go.Proofs.YtiglkhkfbgjjoaaGreatDoor
set_option maxRecDepth 20000
open Go.ChangeShapes Go.WideShapes Go.ChangeAt Go.RowKit Go.Joins
set_option linter.unusedVariables false
def zm2 (k : IntKind) (w : World) (a : Option Addr) (len cap : Nat) (zs : List Int) : Prop :=
 (a = none /\ len = 0 /\ cap = 0 /\ zs = []) \/
 ∃ x, a = some x /\ len <= cap /\ cap <= maxLen /\ zs.length = cap /\ (∀ i, i < zs.length -> w.cell? (x.add i) = some (.int k (zs.getD i 0))) /\ ∀ n ∈ zs, (Lit.int k n).wf = true
theorem zn9 {w : World} {a : Option Addr} {len cap : Nat} {zs : List Int} (h : zm2 .u8 w a len cap zs) : len = 0 \/ ∃ bb off, a = some ⟨bb, off, none⟩ /\ bb < w.heap.size /\ ∀ j, j < len -> ∃ x, w.cell? ⟨bb, off + j, none⟩ = some (.int .u8 x) := by
 rcases h with ⟨rfl, rfl, rfl, rfl⟩ | ⟨x, rfl, hl, hm, hz, hc, hw⟩
 · exact .inl rfl
 · by_cases h0 : len = 0
   · exact .inl h0
   · obtain ⟨b, off, spot⟩ := x
     have h1 := hc 0 (by omega)
     have hspot : spot = none := by simpa [Addr.add] using World.cell?_spot h1
     subst hspot
     rw [Addr.add_lit] at h1
     refine .inr ⟨b, off, rfl, World.block_lt_of_cell? _ _ h1, fun j hj => ?_⟩
     have h2 := hc j (by omega)
     rw [Addr.add_lit] at h2
     exact ⟨_, h2⟩
def zd7 (w : World) : Prop := MkV w /\ zcl w.heap.size w
theorem zh4 (a : Option Addr) (n cap : Nat) (zs : List Int) (w : World) (h : zm2 .u8 w a n cap zs) (hM : zd7 w) :
 Calls Tryz.prog 3 #[.slice a n cap] w fun e w' => e = .returned (.bool true) /\ Below w.heap.size w w' := by
 by_cases hn : n <= 1048576
 · exact zog a n cap w hn (zn9 h) hM.1 hM.2
 · have hn' : (1048576 : Int) < (n : Int) := by omega
   clear h hM
   go_enter Tryz.func3, Tryz.ntmps3
   go_wp2_with fail
   refine (zrl a n cap _).mono ?_
   rintro e w0 ⟨rfl, h0⟩
   rw [h0]
   clear h0 w0
   go_wp2
   go_ret
   exact ⟨rfl, Below.refl _ _⟩
theorem zp5 : Tryz.prog.cellsOf 9 = 1 := by kernel_rfl
theorem zh5 {W : World} {name : String} {g n f : Nat} {t : TypeId} {cs : Array Value} {p : List MemPlace} (P : List ByteArray) (hn : P.length = n) (hg : Tryz.prog.globalNamed name = some g) (hu : Tryz.prog.underlying t = some (.array n 9)) (hv : W.var? Tryz.prog name = some cs) (hd : DataW.trod (fun _ => ()) Tryz.prog W 0 (fun _ => true) false f t cs.toList = some (.agg (P.map fun m => DataW.lit (.string m.data.toList)), p)) :
 ∀ i, i < n -> W.cell? ⟨g, i, none⟩ = some (.string (P.getD i ⟨#[]⟩)) := fun i hi => by
 obtain ⟨xs, m1, _, hx1, hlen, hnn, hel⟩ := DataW.trod_array hu hd
 simp only [Prod.mk.injEq, DataW.agg.injEq] at hx1
 have h1 := hel i hi
 rw [zp5, Nat.mul_one] at h1
 have h2 : i < xs.length := by omega
 rw [List.getElem?_eq_getElem h2] at h1
 obtain ⟨s, e1, e2, _⟩ := DataW.trod_string Tryz.underlying9 h1
 have e3 : (xs.map (·.1))[i]? = (P.map fun m => (DataW.lit (.string m.data.toList) : DataW Unit))[i]? := by rw [<- hx1.1]
 have h3 : i < P.length := by omega
 rw [List.getElem?_map, List.getElem?_map, List.getElem?_eq_getElem h2, List.getElem?_eq_getElem h3, e2] at e3
 simp only [Option.map_some, Option.some.injEq, DataW.lit.injEq, Lit.string.injEq] at e3
 have es : s = P[i] := ByteArray.ext (Array.toList_inj.1 e3)
 have e5 : P.getD i ⟨#[]⟩ = P[i] := by rw [List.getD_eq_getElem?_getD, List.getElem?_eq_getElem h3]; rfl
 rw [World.var?_cell hg hv i, e5, <- es]
 have e4 : (cs.toList.drop i).head? = some (.string s) := by
  cases hd : cs.toList.drop i with
  | nil => rw [hd] at e1; simp at e1
  | cons a l => rw [hd] at e1; simp at e1; simp [e1]
 rw [List.head?_drop] at e4
 simpa using e4
theorem gMk : Tryz.prog.globalNamed "loop.example/g00101/impl.marks" = some 0 := by kernel_rfl
theorem gTn : Tryz.prog.globalNamed "loop.example/g00101/impl.turnTexts" = some 1 := by kernel_rfl
theorem gOp : Tryz.prog.globalNamed "loop.example/g00101/impl.opTexts" = some 2 := by kernel_rfl
theorem tMk : (Tryz.prog.globals[0]?).map (·.type) = some 103 := by kernel_rfl
theorem tTn : (Tryz.prog.globals[1]?).map (·.type) = some 115 := by kernel_rfl
theorem tOp : (Tryz.prog.globals[2]?).map (·.type) = some 117 := by kernel_rfl
theorem uMk : Tryz.prog.underlying 103 = some (.array 21 9) := by kernel_rfl
theorem uTn : Tryz.prog.underlying 115 = some (.array 4 9) := by kernel_rfl
theorem uOp : Tryz.prog.underlying 117 = some (.array 11 9) := by kernel_rfl
theorem dMk : (Rows.laid_loop_example_g00101_impl_marks : DataW Unit) = .agg (mkP.map fun m => DataW.lit (.string m.data.toList)) := by rfl
theorem dOp : (Rows.laid_loop_example_g00101_impl_opTexts : DataW Unit) = .agg (opL.map fun m => DataW.lit (.string m.data.toList)) := by rfl
theorem dTn : (Rows.laid_loop_example_g00101_impl_turnTexts : DataW Unit) = .agg (zju.map fun m => DataW.lit (.string m.data.toList)) := by rfl
theorem zj3 {W : World} {ps : List MemPlace} (h : DataW.LaidVars Tryz.prog W Rows.fnParseOkRow.laid ps) : zd7 W := by
 obtain ⟨g0, t0, cs0, f0, p0, q0, hg0, ht0, hv0, hd0, ⟨g2, t2, cs2, f2, p2, q2, hg2, ht2, hv2, hd2, ⟨g1, t1, cs1, f1, p1, q1, hg1, ht1, hv1, hd1, _, _⟩, _⟩, _⟩ := h
 obtain rfl := Option.some.inj (gMk.symm.trans hg0)
 obtain rfl := Option.some.inj (tMk.symm.trans ht0)
 obtain rfl := Option.some.inj (gTn.symm.trans hg1)
 obtain rfl := Option.some.inj (tTn.symm.trans ht1)
 obtain rfl := Option.some.inj (gOp.symm.trans hg2)
 obtain rfl := Option.some.inj (tOp.symm.trans ht2)
 rw [dMk] at hd0
 rw [dTn] at hd1
 rw [dOp] at hd2
 have c0 := zh5 (n := 21) mkP rfl gMk uMk hv0 hd0
 have c1 := zh5 (n := 4) zju rfl gTn uTn hv1 hd1
 have c2 := zh5 (n := 11) opL rfl gOp uOp hv2 hd2
 have z0 := World.block_lt_of_cell? _ _ (c0 0 (by omega))
 have z1 : 1 < W.heap.size := World.block_lt_of_cell? _ _ (c1 0 (by omega))
 have z2 : 2 < W.heap.size := World.block_lt_of_cell? _ _ (c2 0 (by omega))
 refine ⟨⟨z0, fun i hi => c0 i hi⟩, by show 3 <= W.heap.size; omega, fun j b e => ?_, fun j b e => ?_⟩
 · have hj : j < 4 := by have := (List.getElem?_eq_some_iff.1 e).1; simpa [zju] using this
   rw [c1 j hj, List.getD_eq_getElem?_getD, e]
   rfl
 · have hj : j < 11 := by have := (List.getElem?_eq_some_iff.1 e).1; simpa [opL] using this
   rw [c2 j hj, List.getD_eq_getElem?_getD, e]
   rfl
theorem own : ownKnob Tryz.prog.godebug = none := by kernel_rfl
theorem laidOut : laidOutB Tryz.prog = true := by kernel_rfl
def zh6 (A : Array Value) : Obj -> Obj
 | .cells _ t frozen => .cells A t frozen
 | o => o
theorem zoa : (Rows.fnParseOkRow.laid.all fun x => x.2.handleName?.isNone) = true := by kernel_rfl
theorem zm3 {W : World} (h : laidMetH Tryz.prog Rows.fnParseOkRow.laid W) : zd7 W := by
 rw [MakeChecks.laidMetH_plain _ _ _ zoa] at h
 obtain ⟨ps, h, _, _⟩ := h
 exact zj3 h
theorem zp6 (os : Os) (args : Array Value) : laidMetH Tryz.prog Rows.fnParseOkRow.laid (({ World.holding Tryz.prog os ⟨#[], #[], []⟩ with heap := ((((World.holding Tryz.prog os ⟨#[], #[], []⟩).heap.modify 0 (zh6 #[.string ⟨#[46, 46]⟩, .string ⟨#[61, 61]⟩, .string ⟨#[126, 61]⟩, .string ⟨#[60, 61]⟩, .string ⟨#[123]⟩, .string ⟨#[125]⟩, .string ⟨#[40]⟩, .string ⟨#[41]⟩, .string ⟨#[91]⟩, .string ⟨#[93]⟩, .string ⟨#[59]⟩, .string ⟨#[44]⟩, .string ⟨#[46]⟩, .string ⟨#[61]⟩, .string ⟨#[60]⟩, .string ⟨#[43]⟩, .string ⟨#[45]⟩, .string ⟨#[42]⟩, .string ⟨#[47]⟩, .string ⟨#[37]⟩, .string ⟨#[35]⟩])).modify 2 (zh6 #[.string ⟨#[]⟩, .string ⟨#[43]⟩, .string ⟨#[45]⟩, .string ⟨#[42]⟩, .string ⟨#[47]⟩, .string ⟨#[37]⟩, .string ⟨#[46, 46]⟩, .string ⟨#[61, 61]⟩, .string ⟨#[126, 61]⟩, .string ⟨#[60]⟩, .string ⟨#[60, 61]⟩])).modify 1 (zh6 #[.string ⟨#[]⟩, .string ⟨#[45]⟩, .string ⟨#[110, 111, 116]⟩, .string ⟨#[35]⟩])) } : World).forCall (fun _ _ => 0) ⟨#[], args, []⟩).memory := by
 rw [MakeChecks.laidMetH_plain _ _ _ zoa]
 exact laidMet_of_run (ps := [.cell 0 0, .cell 0 1, .cell 0 2, .cell 0 3, .cell 0 4, .cell 0 5, .cell 0 6, .cell 0 7, .cell 0 8, .cell 0 9, .cell 0 10, .cell 0 11, .cell 0 12, .cell 0 13, .cell 0 14, .cell 0 15, .cell 0 16, .cell 0 17, .cell 0 18, .cell 0 19, .cell 0 20, .cell 2 0, .cell 2 1, .cell 2 2, .cell 2 3, .cell 2 4, .cell 2 5, .cell 2 6, .cell 2 7, .cell 2 8, .cell 2 9, .cell 2 10, .cell 1 0, .cell 1 1, .cell 1 2, .cell 1 3]) 8 (by kernel_rfl) (by kernel_rfl) (by kernel_rfl)
theorem zfw {H : Type} {enc : TypeId × Value -> H} {P : Program} {w : World} {spare : Nat -> Bool} : ∀ {ns : List String} {gs : List (DataW H)} {ps : List MemPlace}, DataW.TrodVars enc P w spare ns gs ps -> gs.length = ns.length
 | [], [], _, _ => rfl
 | [], _ :: _, _, h => h.elim
 | _ :: _, [], _, h => h.elim
 | _ :: _, _ :: _, _, h => by
   obtain ⟨g, t, cs, fuel, p, q, _, _, _, _, hs, _⟩ := h
   simp [zfw hs]
set_option maxRecDepth 100000 in
theorem lifted (os : Os) (started : os.Started) (H : Type) (enc : TypeId × Value -> H) :
 ReturnsInHanded {} Tryz.checked os 3 .any (fun w args => (Rows.fnParseOkSpec.pre enc Tryz.prog Tryz.f3 [] false w args /\ laidMetH Tryz.prog Rows.fnParseOkRow.laid w) /\ sizedMet enc Tryz.prog Tryz.f3 (OpenSpec.ofChange Rows.fnParseOkSpec) false w args) (Rows.fnParseOkSpec.post enc Tryz.prog Tryz.f3 false true false false) := by
 refine returnsInHanded_of_change_and (C := Tryz.checked) (X := fun w _ => laidMetH Tryz.prog Rows.fnParseOkRow.laid w) (fun _ _ _ hh h => h.of_heap hh) own started (by kernel_rfl) Tryz.func3
  (ChangeSpec.witness_at (enc := enc) (C := Tryz.checked) (os := os) (X := fun w _ => laidMetH Tryz.prog Rows.fnParseOkRow.laid w) false { World.holding Tryz.prog os ⟨#[], #[], []⟩ with heap := ((((World.holding Tryz.prog os ⟨#[], #[], []⟩).heap.modify 0 (zh6 #[.string ⟨#[46, 46]⟩, .string ⟨#[61, 61]⟩, .string ⟨#[126, 61]⟩, .string ⟨#[60, 61]⟩, .string ⟨#[123]⟩, .string ⟨#[125]⟩, .string ⟨#[40]⟩, .string ⟨#[41]⟩, .string ⟨#[91]⟩, .string ⟨#[93]⟩, .string ⟨#[59]⟩, .string ⟨#[44]⟩, .string ⟨#[46]⟩, .string ⟨#[61]⟩, .string ⟨#[60]⟩, .string ⟨#[43]⟩, .string ⟨#[45]⟩, .string ⟨#[42]⟩, .string ⟨#[47]⟩, .string ⟨#[37]⟩, .string ⟨#[35]⟩])).modify 2 (zh6 #[.string ⟨#[]⟩, .string ⟨#[43]⟩, .string ⟨#[45]⟩, .string ⟨#[42]⟩, .string ⟨#[47]⟩, .string ⟨#[37]⟩, .string ⟨#[46, 46]⟩, .string ⟨#[61, 61]⟩, .string ⟨#[126, 61]⟩, .string ⟨#[60]⟩, .string ⟨#[60, 61]⟩])).modify 1 (zh6 #[.string ⟨#[]⟩, .string ⟨#[45]⟩, .string ⟨#[110, 111, 116]⟩, .string ⟨#[35]⟩])) } #[.slice none 0 0] 8 rfl (by kernel_rfl) (by kernel_rfl) (by kernel_rfl) (by kernel_rfl) (by kernel_rfl) (zp6 os _)) ?_
 intro W base args ds gs before hval0 hW _ _ hL _
 have hval : ∀ (j : Nat) t v, Tryz.f3.params[j]? = some t -> args[j]? = some v -> Value.okWide Tryz.prog W .any base t v := hval0
 have hW' := hW
 obtain ⟨p, q, hA0, hV, rfl, hfz, hnd⟩ := hW
 have hA : DataW.TrodAll enc Tryz.prog W 0 (fun _ => true) true Tryz.f3.params.toList args.toList ds p := hA0
 rw [Tryz.params3] at hA hval
 obtain ⟨v0, vs0, d0, ds0, p0, q0, hargs, rfl, rfl, h0, r0⟩ := trodAll_cons hA
 obtain ⟨rfl, rfl, rfl⟩ := trodAll_nil r0
 obtain rfl : args = #[v0] := by cases args; simp_all
 have hV1 : DataW.TrodVars enc Tryz.prog W (fun _ => true) ["loop.example/g00101/impl.marks", "loop.example/g00101/impl.turnTexts", "loop.example/g00101/impl.opTexts"] gs q := hV
 have hgl := zfw hV1
 match gs, hgl with
 | [gd0, gd1, gd2], _ =>
 have k0 := h0
 have lt0 : ∀ x ∈ p0, x.block < W.heap.size := by obtain ⟨m, hm⟩ := k0; exact DataW.trod_lt m _ _ _ hm
 obtain ⟨a0, len0, cap0, rfl⟩ := okWide_slice Tryz.underlying22 (hval 0 22 v0 rfl rfl)
 obtain ⟨z0, w0⟩ : ∃ zs, zm2 .u8 W a0 len0 cap0 zs := by
  obtain ⟨fuel, hf⟩ := h0
  rcases open_ints Tryz.underlying22 Tryz.underlying5 (by kernel_rfl) hf with ⟨hcs, _⟩ | ⟨x, l, c, zs, hcs, _, hl, hm, hz, _, hcell, hwz⟩
  · simp [Value.cells] at hcs
    obtain ⟨rfl, rfl, rfl⟩ := hcs
    exact ⟨[], .inl ⟨rfl, rfl, rfl, rfl⟩⟩
  · simp [Value.cells] at hcs
    obtain ⟨rfl, rfl, rfl⟩ := hcs
    exact ⟨zs, .inr ⟨_, rfl, hl, hm, by simpa using hz, hcell, hwz⟩⟩
 clear hA0 hval0
 refine (zh4 a0 len0 cap0 z0 W w0 (zm3 hL)).mono fun e W' ⟨he, bel⟩ => ?_
 subst he
 exact ⟨_, rfl, _, _, _, [], _, _, hW', trodAll_mk1 (shut_bool Tryz.underlying4 _), (trodAll_cons_mk (Below.trod laidOut (by kernel_rfl) (of_decide_eq_true (by kernel_rfl)) k0 bel lt0) trodAll_mk0), Below.trodVars laidOut bel (by kernel_rfl) hV1, bel.frame _, fun h => by cases h⟩
theorem zdg {a b : Bool} (ha : a = true) (hb : b = true) : (a && b) = true := by rw [ha, hb]; rfl
theorem zu2 : (Rows.fnParseOkRow.inPlace == Tryz.prog.inPlace 3) = true := by kernel_rfl
theorem ztr : (Rows.fnParseOkRow.unfollowed == Tryz.prog.unfollowed 3) = true := by kernel_rfl
theorem zts : (Rows.fnParseOkRow.recurses == Tryz.prog.recurses 3) = true := by kernel_rfl
theorem ztt : (Rows.fnParseOkRow.named == Tryz.prog.varsNamed 3) = true := by kernel_rfl
theorem zgc : ∀ (w rest : List Char), (∀ c ∈ w, c ≠ Char.ofNat 32) -> wordsSigns (w ++ Char.ofNat 32 :: rest) = w :: wordsSigns rest
 | [], rest, _ => rfl
 | c :: w, rest, h => by
   rw [List.cons_append, wordsSigns.eq_3 _ _ (fun e => h c (List.mem_cons_self ..) e), zgc w rest (fun x hx => h x (List.mem_cons_of_mem _ hx))]
theorem zgn : ∃ ws, wordsSigns Tryz.prog.initOrder.toList = List.map Char.ofNat [104, 97, 114, 110, 101, 115, 115] :: List.map Char.ofNat [97, 97, 51, 57, 50, 99, 49, 98, 100, 102, 102, 53, 101, 49, 51, 102, 53, 99, 53, 100, 54, 56, 52, 101, 100, 100, 97, 49, 51, 100, 98, 54, 51, 102, 52, 51, 56, 57, 101, 99, 102, 101, 57, 48, 57, 100, 97, 56, 100, 101, 55, 101, 53, 54, 53, 100, 50, 54, 49, 99, 49, 54, 100, 100] :: List.map Char.ofNat [99, 117, 116] :: ws := by
 have h : Tryz.prog.initOrder = String.ofList (List.map Char.ofNat [104, 97, 114, 110, 101, 115, 115] ++ Char.ofNat 32 :: (List.map Char.ofNat [97, 97, 51, 57, 50, 99, 49, 98, 100, 102, 102, 53, 101, 49, 51, 102, 53, 99, 53, 100, 54, 56, 52, 101, 100, 100, 97, 49, 51, 100, 98, 54, 51, 102, 52, 51, 56, 57, 101, 99, 102, 101, 57, 48, 57, 100, 97, 56, 100, 101, 55, 101, 53, 54, 53, 100, 50, 54, 49, 99, 49, 54, 100, 100] ++ Char.ofNat 32 :: (List.map Char.ofNat [99, 117, 116] ++ Char.ofNat 32 :: List.map Char.ofNat [97, 116, 32, 108, 111, 111, 112, 46, 101, 120, 97, 109, 112, 108, 101, 47, 103, 48, 48, 49, 48, 49, 47, 108, 97, 119, 115, 46, 70, 110, 80, 97, 114, 115, 101, 79, 107]))) := by kernel_rfl
 rw [h, String.toList_ofList, zgc _ _ (by decide +kernel), zgc _ _ (by decide +kernel), zgc _ _ (by decide +kernel)]
 exact ⟨_, rfl⟩
theorem ztu : List.map Char.ofNat [99, 117, 116] = "cut".toList := by decide +kernel
theorem ziw : ∃ ws, behindMainWord (wordsSigns Tryz.prog.initOrder.toList) = "cut".toList :: ws := by
 obtain ⟨ws, h⟩ := zgn
 refine ⟨ws, ?_⟩
 rw [h, <- ztu]
 kernel_rfl
theorem zob (ws : List (List Char)) : stripLifts liftWords ("cut".toList :: ws) = ([], "cut".toList :: ws) := by kernel_rfl
theorem zp7 {P : Program} {ws : List (List Char)} (h : behindMainWord (wordsSigns P.initOrder.toList) = "cut".toList :: ws) : P.make = some .cut := by
 unfold Program.make
 rw [h]
 kernel_rfl
theorem zoc {P : Program} {ws : List (List Char)} (h : behindMainWord (wordsSigns P.initOrder.toList) = "cut".toList :: ws) (h1 : P.laysLater = false) (h2 : P.bearsReflect = false) (h3 : P.doorFits [] = true) : P.mayEnter = true := by
 unfold Program.mayEnter
 rw [h]
 simp only [zob, h1, h2, h3]
 kernel_rfl
theorem ztv : Tryz.prog.mayEnter = true := by
 obtain ⟨ws, h⟩ := ziw
 exact zoc h (by kernel_rfl) (by kernel_rfl) (by kernel_rfl)
theorem ztw : (Rows.fnParseOkRow.lifted == Tryz.prog.liftsFinal) = true := by obtain ⟨ws, h⟩ := zgn; unfold Program.liftsFinal Program.headLifts; rw [h]; kernel_rfl
theorem ztx : (Tryz.prog.make == some Rows.fnParseOkRow.make) = true := by
 obtain ⟨ws, h⟩ := ziw
 rw [zp7 h]
 kernel_rfl
theorem zvs : joinedFacts Tryz.prog 3 Tryz.f3 Rows.fnParseOkSpec Rows.fnParseOkRow = true := by
 unfold joinedFacts
 iterate 4 refine zdg ?_ (by kernel_rfl)
 refine zdg (zdg (zdg ?_ ztv) ztw) ztx
 iterate 12 refine zdg ?_ (by kernel_rfl)
 exact zdg (zdg (zdg (zdg (by kernel_rfl) zu2) ztr) zts) ztt
theorem over : Rows.fnParseOkRow.holds Tryz.pinned (OpenSpec.ofChange Rows.fnParseOkSpec) :=
 OpenClaim.holds_of_wide 3 Tryz.f3 rfl rfl rfl rfl rfl rfl rfl ⟨rfl, rfl, rfl, rfl, rfl⟩ rfl rfl rfl rfl rfl (by kernel_rfl) Tryz.func3 zvs
  (of_decide_eq_true (by kernel_rfl)) (by unfold Func.isWrapper; first | (rw [if_pos (by decide +kernel)]; kernel_rfl) | (rw [if_neg (by decide +kernel)]; exact ⟨rfl, rfl⟩))
  (fun os started H enc _ => lifted os started H enc)
theorem zsc : Rows.FnParseOkSaid := over
theorem zod : Tryz.prog.mainIs = some (true, "aa392c1bdff5e13f5c5d684edda13db63f4389ecfe909da8de7e565d261c16dd".toList) := by kernel_rfl
theorem zm4 : true = Tryz.prog.looks [] := by kernel_rfl
theorem zoe : false = Rows.fnParseOkRow.goesBy Tryz.prog := by kernel_rfl
theorem zof : Tryz.prog.funcNamed "loop.example/g00101/laws.FnParseOk" = some 3 := by kernel_rfl
theorem zsd : Rows.fnParseOkRow.wfByText (OpenSpec.ofChange Rows.fnParseOkSpec) = true := by kernel_rfl
theorem fnParseOk_holds : Rows.FnParseOkCardSaid :=
 Claim7.holds_tied_plain_at .later [] [.data, .data, .data] true (true, "aa392c1bdff5e13f5c5d684edda13db63f4389ecfe909da8de7e565d261c16dd") true
  over (fun _ h => by cases h) zsd (fun _ h => by cases h) fnParseOk_row_tie rfl ⟨rfl, rfl⟩ zod rfl
  (fun f fn hf hfn => by
    obtain rfl : f = 3 := (Option.some.inj (zof.symm.trans hf)).symm
    obtain rfl : fn = Tryz.f3 := (Option.some.inj (Tryz.func3.symm.trans hfn)).symm
    exact ⟨zm4, fun j t ht => by
     rw [Tryz.params3] at ht
     match j with
     | 0 => simp at ht; subst ht; exact (show Tryz.prog.wantsStandIn 22 = false by kernel_rfl)
     | j + 1 => simp at ht⟩)
  zoe
#print axioms fnParseOk_holds
end Go.Proofs.YtiglkhkfbgjjoaaGreatDoor
