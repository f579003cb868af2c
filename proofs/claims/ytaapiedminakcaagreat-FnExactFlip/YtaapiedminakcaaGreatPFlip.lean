/- 'laws.FnExactFlip' holds at every input: impl.Flip answers as the model's Flip at every arena, writes nothing into it, and its answer owns its memory. No condition. -/
import Derived.Test.YtaapiedminakcaaGreatRows
import Derived.Test.YtaapiedminakcaaGreatPFinishL
import Derived.ProofKit
import Derived.ShutString
import Derived.ChangeOld
namespace Go.Proofs.YtaapiedminakcaaGreat
set_option maxRecDepth 20000
open Go.ChangeShapes Go.WideShapes Go.ChangeAt Go.RowKit Go.Joins
set_option linter.unusedVariables false
theorem zii (aw : Option Addr) (cw : Nat) (ws : List Int) (sm toh top : Int) (cyc : Bool) (sn old cp sr : Int) (ar : Option Addr) (cr : Nat) (rs : List (Int × Int)) (y : Nat -> Int) (w : World) (hs : Sl w (.slice aw ws.length cw) ws) (hw : zg ws) (hrt : SlF w.heap.size w (.slice ar rs.length cr) rs.length (2 * rs.length) (fun i => .int .i64 (y i))) (hl1 : ws.length <= 9223372036854775807) (hl2 : rs.length <= 9223372036854775807) :
 Calls Tryz.prog 14 #[.agg #[.slice aw ws.length cw, .int .i64 sm, .int .i64 toh, .int .i64 top, .bool cyc, .int .i64 sn, .int .i64 old, .int .i64 cp, .int .i64 sr, .slice ar rs.length cr]] w fun e w' => e = .returned (.bool true) /\ Below w.heap.size w w' := by
 by_cases hok : zdb ws sm toh top cyc sn old cp sr y rs.length
 · cases cyc with
   | true => exact zez aw cw ws sm toh top true sn old cp sr ar cr rs y w.heap.size w sm toh top true sn old cp sr ws.length rs.length (za ws) y false (fun h _ => h) (fun _ h => h) hs hrt hl1 hl2 (fun hn hn2 aw cw ar cr W T h1 h2 => zlf aw cw ws sm toh top sn old cp sr ar cr rs y T W h1 hn hw h2 hn2 hok) (fun hn hn2 aw cw ar cr W T h1 h3 h2 => zlh aw cw ws sm toh top sn old cp sr ar cr rs y T W h1 h3 hn hw h2 hn2 hok)
   | false =>
     obtain ⟨S', hS'⟩ : ∃ S' : Nat, (1 - toh) * sm + 1 = (S' : Int) := by
      obtain ⟨_, _, _, S', _, _, _, _, _, _, _, _, _, _, _, _, h⟩ := zgb hw hok
      exact ⟨S', h⟩
     exact zez aw cw ws sm toh top false sn old cp sr ar cr rs y w.heap.size w sm (1 - toh) ((zh S' ⟨ws, S', 0⟩ y rs.length).1.T : Int) (ovB S' (zh S' ⟨ws, S', 0⟩ y rs.length).1.T) (ovI S' (zh S' ⟨ws, S', 0⟩ y rs.length).1.T (S' : Int)) (ovI S' (zh S' ⟨ws, S', 0⟩ y rs.length).1.T top) (ovI S' (zh S' ⟨ws, S', 0⟩ y rs.length).1.T ((zh S' ⟨ws, S', 0⟩ y rs.length).1.C : Int)) sr ws.length rs.length (za (zh S' ⟨ws, S', 0⟩ y rs.length).1.ws) (zh S' ⟨ws, S', 0⟩ y rs.length).2 true (fun h _ => h) (fun _ h => h) hs hrt hl1 hl2 (fun hn hn2 aw cw ar cr W T h1 h2 => zlj aw cw ws sm toh top sn old cp sr ar cr rs y T W h1 hn hw h2 hn2 hok hS') (fun hn hn2 aw cw ar cr W T h1 h3 h2 => zlk aw cw ws sm toh top sn old cp sr ar cr rs y T W h1 h3 hn hw h2 hn2 hok hS')
 · exact zez aw cw ws sm toh top cyc sn old cp sr ar cr rs y w.heap.size w sm toh top cyc sn old cp sr ws.length rs.length (za ws) y false (fun h _ => h) (fun _ h => h) hs hrt hl1 hl2 (fun hn hn2 aw cw ar cr W T h1 h2 => zle aw cw ws sm toh top cyc sn old cp sr ar cr rs y T W h1 hn hw h2 hn2 hok) (fun hn hn2 aw cw ar cr W T h1 h3 h2 => zlg aw cw ws sm toh top cyc sn old cp sr ar cr rs y T W h1 h3 hn hw h2 hn2 hok)
theorem own : ownKnob Tryz.prog.godebug = none := by kernel_rfl
theorem laidOut : laidOutB Tryz.prog = true := by kernel_rfl
set_option maxRecDepth 100000 in
theorem lifted (os : Os) (started : os.Started) (H : Type) (enc : TypeId × Value -> H) :
 ReturnsInHanded {} Tryz.checked os 14 .any (Rows.fnExactFlipSpec.pre6 enc Tryz.prog Tryz.f14 Rows.fnExactFlipRow.domain false) (Rows.fnExactFlipSpec.post enc Tryz.prog Tryz.f14 false true false false) := by
 refine returnsInHanded_of_change (C := Tryz.checked) own started (by kernel_rfl) Tryz.func14
  (ChangeSpec.witness6 (enc := enc) (C := Tryz.checked) false ⟨#[], #[.agg #[.slice none 0 0, .int .i64 0, .int .i64 0, .int .i64 0, .bool false, .int .i64 0, .int .i64 0, .int .i64 0, .int .i64 0, .slice none 0 0]], []⟩ 8 (by kernel_rfl) (by kernel_rfl) (by kernel_rfl) (by kernel_rfl)) ?_
 intro W base args ds gs before hval0 hW hcnd _
 have hval : ∀ (j : Nat) t v, Tryz.f14.params[j]? = some t -> args[j]? = some v -> Value.okWide Tryz.prog W .any base t v := hval0
 have hW' := hW
 obtain ⟨p, q, hA0, hV, rfl, hfz, hnd⟩ := hW
 have hA : DataW.TrodAll enc Tryz.prog W 0 (fun _ => true) true Tryz.f14.params.toList args.toList ds p := hA0
 rw [Tryz.params14] at hA hval
 obtain ⟨v0, vs0, d0, ds0, p0, q0, hargs, rfl, rfl, h0, r0⟩ := trodAll_cons hA
 obtain ⟨rfl, rfl, rfl⟩ := trodAll_nil r0
 obtain rfl : args = #[v0] := by cases args; simp_all
 obtain ⟨rfl, rfl⟩ := trodVars_none hV
 have k0 := h0
 have lt0 : ∀ x ∈ p0, x.block < W.heap.size := by obtain ⟨m, hm⟩ := k0; exact DataW.trod_lt m _ _ _ hm
 obtain ⟨aw0, cw0, ws0, se0, to0, tp0, cy0, sc0, ol0, co0, sr0, ar0, cr0, rs0, y0, rfl, w0a, w0b, w0c, w0d, w0e⟩ := zrd (hval 0 25 v0 rfl rfl) h0
 clear hA0 hval0
 refine (zii aw0 cw0 ws0 se0 to0 tp0 cy0 sc0 ol0 co0 sr0 ar0 cr0 rs0 y0 W w0a w0b w0c w0d w0e).mono fun e W' ⟨he, bel⟩ => ?_
 subst he
 exact ⟨_, rfl, _, _, _, [], _, [], hW', trodAll_mk1 (shut_bool Tryz.underlying4 _), (trodAll_cons_mk (Below.trod laidOut (by kernel_rfl) (of_decide_eq_true (by kernel_rfl)) k0 bel lt0) trodAll_mk0), rfl, bel.frame _, fun h => by cases h⟩
theorem zem {a b : Bool} (ha : a = true) (hb : b = true) : (a && b) = true := by rw [ha, hb]; rfl
theorem zvo : (Rows.fnExactFlipRow.inPlace == Tryz.prog.inPlace 14) = true := by kernel_rfl
theorem zu6 : (Rows.fnExactFlipRow.unfollowed == Tryz.prog.unfollowed 14) = true := by kernel_rfl
theorem zu7 : (Rows.fnExactFlipRow.recurses == Tryz.prog.recurses 14) = true := by kernel_rfl
theorem zu8 : (Rows.fnExactFlipRow.named == Tryz.prog.varsNamed 14) = true := by kernel_rfl
theorem zhv : ∀ (w rest : List Char), (∀ c ∈ w, c ≠ Char.ofNat 32) -> wordsSigns (w ++ Char.ofNat 32 :: rest) = w :: wordsSigns rest
 | [], rest, _ => rfl
 | c :: w, rest, h => by
   rw [List.cons_append, wordsSigns.eq_3 _ _ (fun e => h c (List.mem_cons_self ..) e), zhv w rest (fun x hx => h x (List.mem_cons_of_mem _ hx))]
theorem zh9 : ∃ ws, wordsSigns Tryz.prog.initOrder.toList = List.map Char.ofNat [104, 97, 114, 110, 101, 115, 115] :: List.map Char.ofNat [50, 99, 55, 100, 56, 50, 100, 99, 102, 102, 51, 54, 52, 53, 51, 50, 49, 49, 54, 98, 99, 102, 53, 101, 99, 48, 100, 98, 51, 56, 99, 48, 54, 55, 101, 54, 51, 52, 100, 100, 53, 56, 54, 55, 53, 51, 53, 56, 51, 51, 100, 50, 49, 98, 56, 48, 99, 98, 102, 101, 52, 102, 56, 97] :: List.map Char.ofNat [99, 117, 116] :: ws := by
 have h : Tryz.prog.initOrder = String.ofList (List.map Char.ofNat [104, 97, 114, 110, 101, 115, 115] ++ Char.ofNat 32 :: (List.map Char.ofNat [50, 99, 55, 100, 56, 50, 100, 99, 102, 102, 51, 54, 52, 53, 51, 50, 49, 49, 54, 98, 99, 102, 53, 101, 99, 48, 100, 98, 51, 56, 99, 48, 54, 55, 101, 54, 51, 52, 100, 100, 53, 56, 54, 55, 53, 51, 53, 56, 51, 51, 100, 50, 49, 98, 56, 48, 99, 98, 102, 101, 52, 102, 56, 97] ++ Char.ofNat 32 :: (List.map Char.ofNat [99, 117, 116] ++ Char.ofNat 32 :: List.map Char.ofNat [97, 116, 32, 108, 111, 111, 112, 46, 101, 120, 97, 109, 112, 108, 101, 47, 103, 48, 48, 49, 48, 49, 47, 108, 97, 119, 115, 46, 70, 110, 69, 120, 97, 99, 116, 65, 114, 101, 110, 97, 79, 107, 32, 108, 111, 111, 112, 46, 101, 120, 97, 109, 112, 108, 101, 47, 103, 48, 48, 49, 48, 49, 47, 108, 97, 119, 115, 46, 70, 110, 69, 120, 97, 99, 116, 79, 98, 106, 101, 99, 116, 115, 32, 108, 111, 111, 112, 46, 101, 120, 97, 109, 112, 108, 101, 47, 103, 48, 48, 49, 48, 49, 47, 108, 97, 119, 115, 46, 70, 110, 69, 120, 97, 99, 116, 72, 101, 97, 100, 65, 116, 32, 108, 111, 111, 112, 46, 101, 120, 97, 109, 112, 108, 101, 47, 103, 48, 48, 49, 48, 49, 47, 108, 97, 119, 115, 46, 70, 110, 69, 120, 97, 99, 116, 70, 114, 101, 101, 32, 108, 111, 111, 112, 46, 101, 120, 97, 109, 112, 108, 101, 47, 103, 48, 48, 49, 48, 49, 47, 108, 97, 119, 115, 46, 70, 110, 69, 120, 97, 99, 116, 83, 101, 116, 82, 111, 111, 116, 32, 108, 111, 111, 112, 46, 101, 120, 97, 109, 112, 108, 101, 47, 103, 48, 48, 49, 48, 49, 47, 108, 97, 119, 115, 46, 70, 110, 69, 120, 97, 99, 116, 77, 111, 118, 101, 82, 111, 111, 116, 32, 108, 111, 111, 112, 46, 101, 120, 97, 109, 112, 108, 101, 47, 103, 48, 48, 49, 48, 49, 47, 108, 97, 119, 115, 46, 70, 110, 69, 120, 97, 99, 116, 80, 114, 111, 116, 111, 79, 102, 32, 108, 111, 111, 112, 46, 101, 120, 97, 109, 112, 108, 101, 47, 103, 48, 48, 49, 48, 49, 47, 108, 97, 119, 115, 46, 70, 110, 69, 120, 97, 99, 116, 83, 101, 114, 105, 97, 108, 79, 102, 32, 108, 111, 111, 112, 46, 101, 120, 97, 109, 112, 108, 101, 47, 103, 48, 48, 49, 48, 49, 47, 108, 97, 119, 115, 46, 70, 110, 69, 120, 97, 99, 116, 83, 97, 109, 101, 82, 111, 111, 116, 115, 32, 108, 111, 111, 112, 46, 101, 120, 97, 109, 112, 108, 101, 47, 103, 48, 48, 49, 48, 49, 47, 108, 97, 119, 115, 46, 70, 110, 69, 120, 97, 99, 116, 84, 101, 120, 116, 79, 102, 32, 108, 111, 111, 112, 46, 101, 120, 97, 109, 112, 108, 101, 47, 103, 48, 48, 49, 48, 49, 47, 108, 97, 119, 115, 46, 70, 110, 69, 120, 97, 99, 116, 67, 111, 109, 112, 97, 114, 101, 84, 101, 120, 116, 32, 108, 111, 111, 112, 46, 101, 120, 97, 109, 112, 108, 101, 47, 103, 48, 48, 49, 48, 49, 47, 108, 97, 119, 115, 46, 70, 110, 69, 120, 97, 99, 116, 70, 108, 105, 112, 32, 108, 111, 111, 112, 46, 101, 120, 97, 109, 112, 108, 101, 47, 103, 48, 48, 49, 48, 49, 47, 108, 97, 119, 115, 46, 70, 110, 69, 120, 97, 99, 116, 70, 105, 110, 105, 115, 104, 32, 108, 111, 111, 112, 46, 101, 120, 97, 109, 112, 108, 101, 47, 103, 48, 48, 49, 48, 49, 47, 108, 97, 119, 115, 46, 70, 110, 69, 120, 97, 99, 116, 67, 111, 108, 108, 101, 99, 116, 32, 108, 111, 111, 112, 46, 101, 120, 97, 109, 112, 108, 101, 47, 103, 48, 48, 49, 48, 49, 47, 108, 97, 119, 115, 46, 70, 110, 69, 120, 97, 99, 116, 82, 101, 97, 99, 104, 101, 100, 32, 108, 111, 111, 112, 46, 101, 120, 97, 109, 112, 108, 101, 47, 103, 48, 48, 49, 48, 49, 47, 108, 97, 119, 115, 46, 70, 110, 69, 120, 97, 99, 116, 66, 111, 114, 100, 101, 114, 32, 108, 111, 111, 112, 46, 101, 120, 97, 109, 112, 108, 101, 47, 103, 48, 48, 49, 48, 49, 47, 108, 97, 119, 115, 46, 70, 110, 69, 120, 97, 99, 116, 67, 97, 112, 97, 99, 105, 116, 121]))) := by kernel_rfl
 rw [h, String.toList_ofList, zhv _ _ (by decide +kernel), zhv _ _ (by decide +kernel), zhv _ _ (by decide +kernel)]
 exact ⟨_, rfl⟩
theorem zu9 : List.map Char.ofNat [99, 117, 116] = "cut".toList := by decide +kernel
theorem zke : ∃ ws, behindMainWord (wordsSigns Tryz.prog.initOrder.toList) = "cut".toList :: ws := by
 obtain ⟨ws, h⟩ := zh9
 refine ⟨ws, ?_⟩
 rw [h, <- zu9]
 kernel_rfl
theorem zre (ws : List (List Char)) : stripLifts liftWords ("cut".toList :: ws) = ([], "cut".toList :: ws) := by kernel_rfl
theorem zs3 {P : Program} {ws : List (List Char)} (h : behindMainWord (wordsSigns P.initOrder.toList) = "cut".toList :: ws) : P.make = some .cut := by
 unfold Program.make
 rw [h]
 kernel_rfl
theorem zrf {P : Program} {ws : List (List Char)} (h : behindMainWord (wordsSigns P.initOrder.toList) = "cut".toList :: ws) (h1 : P.laysLater = false) (h2 : P.bearsReflect = false) (h3 : P.doorFits [] = true) : P.mayEnter = true := by
 unfold Program.mayEnter
 rw [h]
 simp only [zre, h1, h2, h3]
 kernel_rfl
theorem zva : Tryz.prog.mayEnter = true := by
 obtain ⟨ws, h⟩ := zke
 exact zrf h (by kernel_rfl) (by kernel_rfl) (by kernel_rfl)
theorem zvb : (Rows.fnExactFlipRow.lifted == Tryz.prog.liftsFinal) = true := by obtain ⟨ws, h⟩ := zh9; unfold Program.liftsFinal Program.headLifts; rw [h]; kernel_rfl
theorem zvc : (Tryz.prog.make == some Rows.fnExactFlipRow.make) = true := by
 obtain ⟨ws, h⟩ := zke
 rw [zs3 h]
 kernel_rfl
theorem zvv : joinedFacts Tryz.prog 14 Tryz.f14 Rows.fnExactFlipSpec Rows.fnExactFlipRow = true := by
 unfold joinedFacts
 iterate 4 refine zem ?_ (by kernel_rfl)
 refine zem (zem (zem ?_ zva) zvb) zvc
 iterate 12 refine zem ?_ (by kernel_rfl)
 exact zem (zem (zem (zem (by kernel_rfl) zvo) zu6) zu7) zu8
theorem over : Rows.fnExactFlipRow.holds Tryz.pinned (OpenSpec.ofChange Rows.fnExactFlipSpec) :=
 OpenClaim.holds_of_wide 14 Tryz.f14 rfl rfl rfl rfl rfl rfl rfl ⟨rfl, rfl, rfl, rfl, rfl⟩ rfl rfl rfl rfl rfl (by kernel_rfl) Tryz.func14 zvv
  (of_decide_eq_true (by kernel_rfl)) (by unfold Func.isWrapper; first | (rw [if_pos (by decide +kernel)]; kernel_rfl) | (rw [if_neg (by decide +kernel)]; exact ⟨rfl, rfl⟩))
  (fun os started H enc _ => lifted os started H enc)
theorem fnExactFlip_holds : Rows.FnExactFlipSaid := over
#print axioms fnExactFlip_holds
end Go.Proofs.YtaapiedminakcaaGreat
