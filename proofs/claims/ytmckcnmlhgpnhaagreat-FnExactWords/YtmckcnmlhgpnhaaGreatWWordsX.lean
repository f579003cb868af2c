/- 'laws.FnExactWords' holds at every input: impl.Words answers as the model's Words at every machine, and writes nothing into it. No condition. -/
import Derived.Test.YtmckcnmlhgpnhaaGreatRows
import Derived.Test.YtmckcnmlhgpnhaaGreatWWdL
import Derived.Test.YtmckcnmlhgpnhaaGreatWMcO
import Derived.ProofKit
import Derived.ShutString
import Derived.ChangeOld
namespace Go.Proofs.YtmckcnmlhgpnhaaGreat
set_option maxRecDepth 20000
open Go.ChangeShapes Go.WideShapes Go.ChangeAt Go.RowKit Go.Joins
set_option linter.unusedVariables false
theorem zil (a1 : Option Addr) (L c1 : Nat) (a2 : Option Addr) (n c2 : Nat) (aw : Option Addr) (cw : Nat) (ws : List Int) (smz toh top : Int) (cyc : Bool) (sn old cpz sr : Int) (ar : Option Addr) (cr : Nat) (rs : List (Int × Int)) (fa de sh : Bool) (st et en sp : Int) (ao : Option Addr) (m co : Nat) (X : Nat -> PtD) (s : Nat -> ByteArray) (y : Nat -> Int) (u : Nat -> ByteArray) (w : World) (h : McF w (.slice a1 L c1) (.slice a2 n c2) (.slice aw ws.length cw) (.slice ar rs.length cr) (.slice ao m co) L X n s ws rs.length y m u) (hw : zg ws) (g1 : L <= 9223372036854775807) (g2 : n <= 9223372036854775807) (g3 : ∀ j, j < L -> PLr (X j)) (g4 : ∀ j, j < n -> (s j).size <= 9223372036854775807) (g5 : ws.length <= 9223372036854775807) (g6 : rs.length <= 9223372036854775807) (g7 : m <= 9223372036854775807) (g8 : ∀ j, j < m -> (u j).size <= 9223372036854775807) :
 Calls Tryz.prog 4 #[.agg #[.slice a1 L c1, .slice a2 n c2, .slice aw ws.length cw, .int .i64 smz, .int .i64 toh, .int .i64 top, .bool cyc, .int .i64 sn, .int .i64 old, .int .i64 cpz, .int .i64 sr, .slice ar rs.length cr, .bool fa, .bool de, .bool sh, .int .i64 st, .int .i64 et, .int .i64 en, .int .i64 sp, .slice ao m co]] w fun e w' => e = .returned (.bool true) /\ Below w.heap.size w w' :=
 zus a1 L c1 a2 n c2 aw cw ws smz toh top cyc sn old cpz sr ar cr rs fa de sh st et en sp ao m co X s y u w h hw g1 g2 g3 g4 g5 g6 g7 g8
theorem own : ownKnob Tryz.prog.godebug = none := by kernel_rfl
theorem laidOut : laidOutB Tryz.prog = true := by kernel_rfl
set_option maxRecDepth 100000 in
theorem lifted (os : Os) (started : os.Started) (H : Type) (enc : TypeId × Value -> H) :
 ReturnsInHanded {} Tryz.checked os 4 .any (Rows.fnExactWordsSpec.pre6 enc Tryz.prog Tryz.f4 Rows.fnExactWordsRow.domain false) (Rows.fnExactWordsSpec.post enc Tryz.prog Tryz.f4 false true false false) := by
 refine returnsInHanded_of_change (C := Tryz.checked) own started (by kernel_rfl) Tryz.func4
  (ChangeSpec.witness6 (enc := enc) (C := Tryz.checked) false ⟨#[], #[.agg #[.slice none 0 0, .slice none 0 0, .slice none 0 0, .int .i64 0, .int .i64 0, .int .i64 0, .bool false, .int .i64 0, .int .i64 0, .int .i64 0, .int .i64 0, .slice none 0 0, .bool false, .bool false, .bool false, .int .i64 0, .int .i64 0, .int .i64 0, .int .i64 0, .slice none 0 0]], []⟩ 8 (by kernel_rfl) (by kernel_rfl) (by kernel_rfl) (by kernel_rfl)) ?_
 intro W base args ds gs before hval0 hW hcnd _
 have hval : ∀ (j : Nat) t v, Tryz.f4.params[j]? = some t -> args[j]? = some v -> Value.okWide Tryz.prog W .any base t v := hval0
 have hW' := hW
 obtain ⟨p, q, hA0, hV, rfl, hfz, hnd⟩ := hW
 have hA : DataW.TrodAll enc Tryz.prog W 0 (fun _ => true) true Tryz.f4.params.toList args.toList ds p := hA0
 rw [Tryz.params4] at hA hval
 obtain ⟨v0, vs0, d0, ds0, p0, q0, hargs, rfl, rfl, h0, r0⟩ := trodAll_cons hA
 obtain ⟨rfl, rfl, rfl⟩ := trodAll_nil r0
 obtain rfl : args = #[v0] := by cases args; simp_all
 obtain ⟨rfl, rfl⟩ := trodVars_none hV
 have k0 := h0
 have lt0 : ∀ x ∈ p0, x.block < W.heap.size := by obtain ⟨m, hm⟩ := k0; exact DataW.trod_lt m _ _ _ hm
 obtain ⟨ma0, na0, ca0, mb0, nb0, cb0, aw0, cw0, ws0, se0, to0, tp0, cy0, sc0, ol0, cp0, sr0, ar0, cr0, rs0, fa0, de0, sh0, st0, et0, en0, sp0, ao0, mo0, co0, X0, s0, y0, u0, rfl, w0a, w0b, w0c, w0d, w0e, w0f, w0g, w0h, w0i, w0j⟩ := zod (hval 0 41 v0 rfl rfl) h0
 clear hA0 hval0
 refine (zil ma0 na0 ca0 mb0 nb0 cb0 aw0 cw0 ws0 se0 to0 tp0 cy0 sc0 ol0 cp0 sr0 ar0 cr0 rs0 fa0 de0 sh0 st0 et0 en0 sp0 ao0 mo0 co0 X0 s0 y0 u0 W w0a w0b w0c w0d w0e w0f w0g w0h w0i w0j).mono fun e W' ⟨he, bel⟩ => ?_
 subst he
 exact ⟨_, rfl, _, _, _, [], _, [], hW', trodAll_mk1 (shut_bool Tryz.underlying4 _), (trodAll_cons_mk (Below.trod laidOut (by kernel_rfl) (of_decide_eq_true (by kernel_rfl)) k0 bel lt0) trodAll_mk0), rfl, bel.frame _, fun h => by cases h⟩
theorem zer {a b : Bool} (ha : a = true) (hb : b = true) : (a && b) = true := by rw [ha, hb]; rfl
theorem zxz : (Rows.fnExactWordsRow.inPlace == Tryz.prog.inPlace 4) = true := by kernel_rfl
theorem zxd : (Rows.fnExactWordsRow.unfollowed == Tryz.prog.unfollowed 4) = true := by kernel_rfl
theorem zxe : (Rows.fnExactWordsRow.recurses == Tryz.prog.recurses 4) = true := by kernel_rfl
theorem zxf : (Rows.fnExactWordsRow.named == Tryz.prog.varsNamed 4) = true := by kernel_rfl
theorem zic : ∀ (w rest : List Char), (∀ c ∈ w, c ≠ Char.ofNat 32) -> wordsSigns (w ++ Char.ofNat 32 :: rest) = w :: wordsSigns rest
 | [], rest, _ => rfl
 | c :: w, rest, h => by
   rw [List.cons_append, wordsSigns.eq_3 _ _ (fun e => h c (List.mem_cons_self ..) e), zic w rest (fun x hx => h x (List.mem_cons_of_mem _ hx))]
theorem zit : ∃ ws, wordsSigns Tryz.prog.initOrder.toList = List.map Char.ofNat [104, 97, 114, 110, 101, 115, 115] :: List.map Char.ofNat [55, 56, 56, 101, 55, 49, 99, 55, 102, 56, 100, 53, 99, 48, 49, 102, 54, 49, 97, 55, 56, 50, 55, 98, 50, 52, 100, 51, 98, 51, 52, 101, 48, 52, 100, 97, 48, 100, 101, 56, 52, 49, 101, 99, 52, 52, 54, 102, 53, 54, 53, 52, 99, 50, 101, 54, 55, 100, 97, 53, 54, 98, 49, 100] :: List.map Char.ofNat [99, 117, 116] :: ws := by
 have h : Tryz.prog.initOrder = String.ofList (List.map Char.ofNat [104, 97, 114, 110, 101, 115, 115] ++ Char.ofNat 32 :: (List.map Char.ofNat [55, 56, 56, 101, 55, 49, 99, 55, 102, 56, 100, 53, 99, 48, 49, 102, 54, 49, 97, 55, 56, 50, 55, 98, 50, 52, 100, 51, 98, 51, 52, 101, 48, 52, 100, 97, 48, 100, 101, 56, 52, 49, 101, 99, 52, 52, 54, 102, 53, 54, 53, 52, 99, 50, 101, 54, 55, 100, 97, 53, 54, 98, 49, 100] ++ Char.ofNat 32 :: (List.map Char.ofNat [99, 117, 116] ++ Char.ofNat 32 :: List.map Char.ofNat [97, 116, 32, 108, 111, 111, 112, 46, 101, 120, 97, 109, 112, 108, 101, 47, 103, 48, 48, 49, 48, 49, 47, 108, 97, 119, 115, 46, 70, 110, 69, 120, 97, 99, 116, 82, 101, 97, 99, 104, 101, 100, 32, 108, 111, 111, 112, 46, 101, 120, 97, 109, 112, 108, 101, 47, 103, 48, 48, 49, 48, 49, 47, 108, 97, 119, 115, 46, 70, 110, 69, 120, 97, 99, 116, 87, 111, 114, 100, 115, 32, 108, 111, 111, 112, 46, 101, 120, 97, 109, 112, 108, 101, 47, 103, 48, 48, 49, 48, 49, 47, 108, 97, 119, 115, 46, 70, 110, 69, 120, 97, 99, 116, 73, 109, 97, 103, 101, 32, 108, 111, 111, 112, 46, 101, 120, 97, 109, 112, 108, 101, 47, 103, 48, 48, 49, 48, 49, 47, 108, 97, 119, 115, 46, 70, 110, 69, 120, 97, 99, 116, 82, 101, 115, 116, 111, 114, 101, 32, 108, 111, 111, 112, 46, 101, 120, 97, 109, 112, 108, 101, 47, 103, 48, 48, 49, 48, 49, 47, 108, 97, 119, 115, 46, 70, 110, 69, 120, 97, 99, 116, 67, 101, 110, 115, 117, 115, 32, 108, 111, 111, 112, 46, 101, 120, 97, 109, 112, 108, 101, 47, 103, 48, 48, 49, 48, 49, 47, 108, 97, 119, 115, 46, 70, 110, 69, 120, 97, 99, 116, 75, 105, 110, 32, 108, 111, 111, 112, 46, 101, 120, 97, 109, 112, 108, 101, 47, 103, 48, 48, 49, 48, 49, 47, 108, 97, 119, 115, 46, 70, 110, 69, 120, 97, 99, 116, 87, 97, 121]))) := by kernel_rfl
 rw [h, String.toList_ofList, zic _ _ (by decide +kernel), zic _ _ (by decide +kernel), zic _ _ (by decide +kernel)]
 exact ⟨_, rfl⟩
theorem zxg : List.map Char.ofNat [99, 117, 116] = "cut".toList := by decide +kernel
theorem zk0 : ∃ ws, behindMainWord (wordsSigns Tryz.prog.initOrder.toList) = "cut".toList :: ws := by
 obtain ⟨ws, h⟩ := zit
 refine ⟨ws, ?_⟩
 rw [h, <- zxg]
 kernel_rfl
theorem zsn (ws : List (List Char)) : stripLifts liftWords ("cut".toList :: ws) = ([], "cut".toList :: ws) := by kernel_rfl
theorem zur {P : Program} {ws : List (List Char)} (h : behindMainWord (wordsSigns P.initOrder.toList) = "cut".toList :: ws) : P.make = some .cut := by
 unfold Program.make
 rw [h]
 kernel_rfl
theorem zso {P : Program} {ws : List (List Char)} (h : behindMainWord (wordsSigns P.initOrder.toList) = "cut".toList :: ws) (h1 : P.laysLater = false) (h2 : P.bearsReflect = false) (h3 : P.doorFits [] = true) : P.mayEnter = true := by
 unfold Program.mayEnter
 rw [h]
 simp only [zsn, h1, h2, h3]
 kernel_rfl
theorem zxh : Tryz.prog.mayEnter = true := by
 obtain ⟨ws, h⟩ := zk0
 exact zso h (by kernel_rfl) (by kernel_rfl) (by kernel_rfl)
theorem zxi : (Rows.fnExactWordsRow.lifted == Tryz.prog.liftsFinal) = true := by obtain ⟨ws, h⟩ := zit; unfold Program.liftsFinal Program.headLifts; rw [h]; kernel_rfl
theorem zxj : (Tryz.prog.make == some Rows.fnExactWordsRow.make) = true := by
 obtain ⟨ws, h⟩ := zk0
 rw [zur h]
 kernel_rfl
theorem zx7 : joinedFacts Tryz.prog 4 Tryz.f4 Rows.fnExactWordsSpec Rows.fnExactWordsRow = true := by
 unfold joinedFacts
 iterate 4 refine zer ?_ (by kernel_rfl)
 refine zer (zer (zer ?_ zxh) zxi) zxj
 iterate 12 refine zer ?_ (by kernel_rfl)
 exact zer (zer (zer (zer (by kernel_rfl) zxz) zxd) zxe) zxf
theorem over : Rows.fnExactWordsRow.holds Tryz.pinned (OpenSpec.ofChange Rows.fnExactWordsSpec) :=
 OpenClaim.holds_of_wide 4 Tryz.f4 rfl rfl rfl rfl rfl rfl rfl ⟨rfl, rfl, rfl, rfl, rfl⟩ rfl rfl rfl rfl rfl (by kernel_rfl) Tryz.func4 zx7
  (of_decide_eq_true (by kernel_rfl)) (by unfold Func.isWrapper; first | (rw [if_pos (by decide +kernel)]; kernel_rfl) | (rw [if_neg (by decide +kernel)]; exact ⟨rfl, rfl⟩))
  (fun os started H enc _ => lifted os started H enc)
theorem fnExactWords_holds : Rows.FnExactWordsSaid := over
#print axioms fnExactWords_holds
end Go.Proofs.YtmckcnmlhgpnhaaGreat
