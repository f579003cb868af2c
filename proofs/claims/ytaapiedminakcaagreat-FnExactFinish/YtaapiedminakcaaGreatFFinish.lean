/- 'laws.FnExactFinish' holds at every input: impl.Finish answers as the model's Finish at every arena, writes nothing into it, and its answer owns its memory. No condition. -/
import Derived.Test.YtaapiedminakcaaGreatRows
import Derived.Test.YtaapiedminakcaaGreatFFinishL
import Derived.ProofKit
import Derived.ShutString
import Derived.ChangeOld
namespace Go.Proofs.YtaapiedminakcaaGreat
set_option maxRecDepth 20000
open Go.ChangeShapes Go.WideShapes Go.ChangeAt Go.RowKit Go.Joins
set_option linter.unusedVariables false
theorem zhi (aw : Option Addr) (cw : Nat) (ws : List Int) (sm toh top : Int) (cyc : Bool) (sn old cp sr : Int) (ar : Option Addr) (cr : Nat) (rs : List (Int × Int)) (y : Nat -> Int) (w : World) (hs : Sl w (.slice aw ws.length cw) ws) (hw : zg ws) (hrt : SlF w.heap.size w (.slice ar rs.length cr) rs.length (2 * rs.length) (fun i => .int .i64 (y i))) (hl1 : ws.length <= 9223372036854775807) (hl2 : rs.length <= 9223372036854775807) :
 Calls Tryz.prog 15 #[.agg #[.slice aw ws.length cw, .int .i64 sm, .int .i64 toh, .int .i64 top, .bool cyc, .int .i64 sn, .int .i64 old, .int .i64 cp, .int .i64 sr, .slice ar rs.length cr]] w fun e w' => e = .returned (.bool true) /\ Below w.heap.size w w' := by
 by_cases hok : zc9 ws sm toh top cyc sn old cp sr y rs.length
 · cases cyc with
   | false => exact zem aw cw ws sm toh top false sn old cp sr ar cr rs y w.heap.size w sm toh top false sn old cp sr ws.length rs.length (za ws) y 0 (fun h _ => h) (fun _ h => h) hs hrt hl1 hl2 (fun hn hn2 aw cw ar cr W T h1 h2 => zkd aw cw ws sm toh top sn old cp sr ar cr rs y T W h1 hn hw h2 hn2 hok) (fun hn hn2 aw cw ar cr W T h1 h3 h2 => zka aw cw ws sm toh top sn old cp sr ar cr rs y T W h1 h3 hn hw h2 hn2 hok)
   | true =>
     obtain ⟨S, Tp, E, F, Od, sc, C, L, O, hT, hsc, _, hcp, hC, _, hH, hCT, hE8, g6⟩ := zpt hw hok
     obtain ⟨R, hRR⟩ : ∃ R, R = zbk S E ⟨ws, Tp, C⟩ sc 0 := ⟨_, rfl⟩
     exact zem aw cw ws sm toh top true sn old cp sr ar cr rs y w.heap.size w sm toh (R.1.T : Int) false 0 0 0 sr ws.length rs.length (za R.1.ws) y (R.2 : Int) (fun h _ => h) (fun _ h => h) hs hrt hl1 hl2 (fun hn hn2 aw cw ar cr W T h1 h2 => zke aw cw ws sm toh top sn old cp sr ar cr rs y T W h1 hn hw h2 hn2 hok hT hsc hcp hC hH hCT hE8 g6 hRR) (fun hn hn2 aw cw ar cr W T h1 h3 h2 => zkb aw cw ws sm toh top sn old cp sr ar cr rs y T W h1 h3 hn hw h2 hn2 hok hT hsc hcp hC hH hCT hE8 g6 hRR)
 · exact zem aw cw ws sm toh top cyc sn old cp sr ar cr rs y w.heap.size w sm toh top cyc sn old cp sr ws.length rs.length (za ws) y 0 (fun h _ => h) (fun _ h => h) hs hrt hl1 hl2 (fun hn hn2 aw cw ar cr W T h1 h2 => zkc aw cw ws sm toh top cyc sn old cp sr ar cr rs y T W h1 hn hw h2 hn2 hok) (fun hn hn2 aw cw ar cr W T h1 h3 h2 => zj9 aw cw ws sm toh top cyc sn old cp sr ar cr rs y T W h1 h3 hn hw h2 hn2 hok)
theorem own : ownKnob Tryz.prog.godebug = none := by kernel_rfl
theorem laidOut : laidOutB Tryz.prog = true := by kernel_rfl
set_option maxRecDepth 100000 in
theorem lifted (os : Os) (started : os.Started) (H : Type) (enc : TypeId × Value -> H) :
 ReturnsInHanded {} Tryz.checked os 15 .any (Rows.fnExactFinishSpec.pre6 enc Tryz.prog Tryz.f15 Rows.fnExactFinishRow.domain false) (Rows.fnExactFinishSpec.post enc Tryz.prog Tryz.f15 false true false false) := by
 refine returnsInHanded_of_change (C := Tryz.checked) own started (by kernel_rfl) Tryz.func15
  (ChangeSpec.witness6 (enc := enc) (C := Tryz.checked) false ⟨#[], #[.agg #[.slice none 0 0, .int .i64 0, .int .i64 0, .int .i64 0, .bool false, .int .i64 0, .int .i64 0, .int .i64 0, .int .i64 0, .slice none 0 0]], []⟩ 8 (by kernel_rfl) (by kernel_rfl) (by kernel_rfl) (by kernel_rfl)) ?_
 intro W base args ds gs before hval0 hW hcnd _
 have hval : ∀ (j : Nat) t v, Tryz.f15.params[j]? = some t -> args[j]? = some v -> Value.okWide Tryz.prog W .any base t v := hval0
 have hW' := hW
 obtain ⟨p, q, hA0, hV, rfl, hfz, hnd⟩ := hW
 have hA : DataW.TrodAll enc Tryz.prog W 0 (fun _ => true) true Tryz.f15.params.toList args.toList ds p := hA0
 rw [Tryz.params15] at hA hval
 obtain ⟨v0, vs0, d0, ds0, p0, q0, hargs, rfl, rfl, h0, r0⟩ := trodAll_cons hA
 obtain ⟨rfl, rfl, rfl⟩ := trodAll_nil r0
 obtain rfl : args = #[v0] := by cases args; simp_all
 obtain ⟨rfl, rfl⟩ := trodVars_none hV
 have k0 := h0
 have lt0 : ∀ x ∈ p0, x.block < W.heap.size := by obtain ⟨m, hm⟩ := k0; exact DataW.trod_lt m _ _ _ hm
 obtain ⟨aw0, cw0, ws0, se0, to0, tp0, cy0, sc0, ol0, co0, sr0, ar0, cr0, rs0, y0, rfl, w0a, w0b, w0c, w0d, w0e⟩ := zr1 (hval 0 25 v0 rfl rfl) h0
 clear hA0 hval0
 refine (zhi aw0 cw0 ws0 se0 to0 tp0 cy0 sc0 ol0 co0 sr0 ar0 cr0 rs0 y0 W w0a w0b w0c w0d w0e).mono fun e W' ⟨he, bel⟩ => ?_
 subst he
 exact ⟨_, rfl, _, _, _, [], _, [], hW', trodAll_mk1 (shut_bool Tryz.underlying4 _), (trodAll_cons_mk (Below.trod laidOut (by kernel_rfl) (of_decide_eq_true (by kernel_rfl)) k0 bel lt0) trodAll_mk0), rfl, bel.frame _, fun h => by cases h⟩
theorem zep {a b : Bool} (ha : a = true) (hb : b = true) : (a && b) = true := by rw [ha, hb]; rfl
theorem zwd : (Rows.fnExactFinishRow.inPlace == Tryz.prog.inPlace 15) = true := by kernel_rfl
theorem zvx : (Rows.fnExactFinishRow.unfollowed == Tryz.prog.unfollowed 15) = true := by kernel_rfl
theorem zvy : (Rows.fnExactFinishRow.recurses == Tryz.prog.recurses 15) = true := by kernel_rfl
theorem zvz : (Rows.fnExactFinishRow.named == Tryz.prog.varsNamed 15) = true := by kernel_rfl
theorem zh3 : ∀ (w rest : List Char), (∀ c ∈ w, c ≠ Char.ofNat 32) -> wordsSigns (w ++ Char.ofNat 32 :: rest) = w :: wordsSigns rest
 | [], rest, _ => rfl
 | c :: w, rest, h => by
   rw [List.cons_append, wordsSigns.eq_3 _ _ (fun e => h c (List.mem_cons_self ..) e), zh3 w rest (fun x hx => h x (List.mem_cons_of_mem _ hx))]
theorem zij : ∃ ws, wordsSigns Tryz.prog.initOrder.toList = List.map Char.ofNat [104, 97, 114, 110, 101, 115, 115] :: List.map Char.ofNat [50, 99, 55, 100, 56, 50, 100, 99, 102, 102, 51, 54, 52, 53, 51, 50, 49, 49, 54, 98, 99, 102, 53, 101, 99, 48, 100, 98, 51, 56, 99, 48, 54, 55, 101, 54, 51, 52, 100, 100, 53, 56, 54, 55, 53, 51, 53, 56, 51, 51, 100, 50, 49, 98, 56, 48, 99, 98, 102, 101, 52, 102, 56, 97] :: List.map Char.ofNat [99, 117, 116] :: ws := by
 have h : Tryz.prog.initOrder = String.ofList (List.map Char.ofNat [104, 97, 114, 110, 101, 115, 115] ++ Char.ofNat 32 :: (List.map Char.ofNat [50, 99, 55, 100, 56, 50, 100, 99, 102, 102, 51, 54, 52, 53, 51, 50, 49, 49, 54, 98, 99, 102, 53, 101, 99, 48, 100, 98, 51, 56, 99, 48, 54, 55, 101, 54, 51, 52, 100, 100, 53, 56, 54, 55, 53, 51, 53, 56, 51, 51, 100, 50, 49, 98, 56, 48, 99, 98, 102, 101, 52, 102, 56, 97] ++ Char.ofNat 32 :: (List.map Char.ofNat [99, 117, 116] ++ Char.ofNat 32 :: List.map Char.ofNat [97, 116, 32, 108, 111, 111, 112, 46, 101, 120, 97, 109, 112, 108, 101, 47, 103, 48, 48, 49, 48, 49, 47, 108, 97, 119, 115, 46, 70, 110, 69, 120, 97, 99, 116, 65, 114, 101, 110, 97, 79, 107, 32, 108, 111, 111, 112, 46, 101, 120, 97, 109, 112, 108, 101, 47, 103, 48, 48, 49, 48, 49, 47, 108, 97, 119, 115, 46, 70, 110, 69, 120, 97, 99, 116, 79, 98, 106, 101, 99, 116, 115, 32, 108, 111, 111, 112, 46, 101, 120, 97, 109, 112, 108, 101, 47, 103, 48, 48, 49, 48, 49, 47, 108, 97, 119, 115, 46, 70, 110, 69, 120, 97, 99, 116, 72, 101, 97, 100, 65, 116, 32, 108, 111, 111, 112, 46, 101, 120, 97, 109, 112, 108, 101, 47, 103, 48, 48, 49, 48, 49, 47, 108, 97, 119, 115, 46, 70, 110, 69, 120, 97, 99, 116, 70, 114, 101, 101, 32, 108, 111, 111, 112, 46, 101, 120, 97, 109, 112, 108, 101, 47, 103, 48, 48, 49, 48, 49, 47, 108, 97, 119, 115, 46, 70, 110, 69, 120, 97, 99, 116, 83, 101, 116, 82, 111, 111, 116, 32, 108, 111, 111, 112, 46, 101, 120, 97, 109, 112, 108, 101, 47, 103, 48, 48, 49, 48, 49, 47, 108, 97, 119, 115, 46, 70, 110, 69, 120, 97, 99, 116, 77, 111, 118, 101, 82, 111, 111, 116, 32, 108, 111, 111, 112, 46, 101, 120, 97, 109, 112, 108, 101, 47, 103, 48, 48, 49, 48, 49, 47, 108, 97, 119, 115, 46, 70, 110, 69, 120, 97, 99, 116, 80, 114, 111, 116, 111, 79, 102, 32, 108, 111, 111, 112, 46, 101, 120, 97, 109, 112, 108, 101, 47, 103, 48, 48, 49, 48, 49, 47, 108, 97, 119, 115, 46, 70, 110, 69, 120, 97, 99, 116, 83, 101, 114, 105, 97, 108, 79, 102, 32, 108, 111, 111, 112, 46, 101, 120, 97, 109, 112, 108, 101, 47, 103, 48, 48, 49, 48, 49, 47, 108, 97, 119, 115, 46, 70, 110, 69, 120, 97, 99, 116, 83, 97, 109, 101, 82, 111, 111, 116, 115, 32, 108, 111, 111, 112, 46, 101, 120, 97, 109, 112, 108, 101, 47, 103, 48, 48, 49, 48, 49, 47, 108, 97, 119, 115, 46, 70, 110, 69, 120, 97, 99, 116, 84, 101, 120, 116, 79, 102, 32, 108, 111, 111, 112, 46, 101, 120, 97, 109, 112, 108, 101, 47, 103, 48, 48, 49, 48, 49, 47, 108, 97, 119, 115, 46, 70, 110, 69, 120, 97, 99, 116, 67, 111, 109, 112, 97, 114, 101, 84, 101, 120, 116, 32, 108, 111, 111, 112, 46, 101, 120, 97, 109, 112, 108, 101, 47, 103, 48, 48, 49, 48, 49, 47, 108, 97, 119, 115, 46, 70, 110, 69, 120, 97, 99, 116, 70, 108, 105, 112, 32, 108, 111, 111, 112, 46, 101, 120, 97, 109, 112, 108, 101, 47, 103, 48, 48, 49, 48, 49, 47, 108, 97, 119, 115, 46, 70, 110, 69, 120, 97, 99, 116, 70, 105, 110, 105, 115, 104, 32, 108, 111, 111, 112, 46, 101, 120, 97, 109, 112, 108, 101, 47, 103, 48, 48, 49, 48, 49, 47, 108, 97, 119, 115, 46, 70, 110, 69, 120, 97, 99, 116, 67, 111, 108, 108, 101, 99, 116, 32, 108, 111, 111, 112, 46, 101, 120, 97, 109, 112, 108, 101, 47, 103, 48, 48, 49, 48, 49, 47, 108, 97, 119, 115, 46, 70, 110, 69, 120, 97, 99, 116, 82, 101, 97, 99, 104, 101, 100, 32, 108, 111, 111, 112, 46, 101, 120, 97, 109, 112, 108, 101, 47, 103, 48, 48, 49, 48, 49, 47, 108, 97, 119, 115, 46, 70, 110, 69, 120, 97, 99, 116, 66, 111, 114, 100, 101, 114, 32, 108, 111, 111, 112, 46, 101, 120, 97, 109, 112, 108, 101, 47, 103, 48, 48, 49, 48, 49, 47, 108, 97, 119, 115, 46, 70, 110, 69, 120, 97, 99, 116, 67, 97, 112, 97, 99, 105, 116, 121]))) := by kernel_rfl
 rw [h, String.toList_ofList, zh3 _ _ (by decide +kernel), zh3 _ _ (by decide +kernel), zh3 _ _ (by decide +kernel)]
 exact ⟨_, rfl⟩
theorem zv0 : List.map Char.ofNat [99, 117, 116] = "cut".toList := by decide +kernel
theorem zkw : ∃ ws, behindMainWord (wordsSigns Tryz.prog.initOrder.toList) = "cut".toList :: ws := by
 obtain ⟨ws, h⟩ := zij
 refine ⟨ws, ?_⟩
 rw [h, <- zv0]
 kernel_rfl
theorem zr2 (ws : List (List Char)) : stripLifts liftWords ("cut".toList :: ws) = ([], "cut".toList :: ws) := by kernel_rfl
theorem ztt {P : Program} {ws : List (List Char)} (h : behindMainWord (wordsSigns P.initOrder.toList) = "cut".toList :: ws) : P.make = some .cut := by
 unfold Program.make
 rw [h]
 kernel_rfl
theorem zr3 {P : Program} {ws : List (List Char)} (h : behindMainWord (wordsSigns P.initOrder.toList) = "cut".toList :: ws) (h1 : P.laysLater = false) (h2 : P.bearsReflect = false) (h3 : P.doorFits [] = true) : P.mayEnter = true := by
 unfold Program.mayEnter
 rw [h]
 simp only [zr2, h1, h2, h3]
 kernel_rfl
theorem zv1 : Tryz.prog.mayEnter = true := by
 obtain ⟨ws, h⟩ := zkw
 exact zr3 h (by kernel_rfl) (by kernel_rfl) (by kernel_rfl)
theorem zv2 : (Rows.fnExactFinishRow.lifted == Tryz.prog.liftsFinal) = true := by obtain ⟨ws, h⟩ := zij; unfold Program.liftsFinal Program.headLifts; rw [h]; kernel_rfl
theorem zv3 : (Tryz.prog.make == some Rows.fnExactFinishRow.make) = true := by
 obtain ⟨ws, h⟩ := zkw
 rw [ztt h]
 kernel_rfl
theorem zwl : joinedFacts Tryz.prog 15 Tryz.f15 Rows.fnExactFinishSpec Rows.fnExactFinishRow = true := by
 unfold joinedFacts
 iterate 4 refine zep ?_ (by kernel_rfl)
 refine zep (zep (zep ?_ zv1) zv2) zv3
 iterate 12 refine zep ?_ (by kernel_rfl)
 exact zep (zep (zep (zep (by kernel_rfl) zwd) zvx) zvy) zvz
theorem over : Rows.fnExactFinishRow.holds Tryz.pinned (OpenSpec.ofChange Rows.fnExactFinishSpec) :=
 OpenClaim.holds_of_wide 15 Tryz.f15 rfl rfl rfl rfl rfl rfl rfl ⟨rfl, rfl, rfl, rfl, rfl⟩ rfl rfl rfl rfl rfl (by kernel_rfl) Tryz.func15 zwl
  (of_decide_eq_true (by kernel_rfl)) (by unfold Func.isWrapper; first | (rw [if_pos (by decide +kernel)]; kernel_rfl) | (rw [if_neg (by decide +kernel)]; exact ⟨rfl, rfl⟩))
  (fun os started H enc _ => lifted os started H enc)
theorem fnExactFinish_holds : Rows.FnExactFinishSaid := over
#print axioms fnExactFinish_holds
end Go.Proofs.YtaapiedminakcaaGreat
