/- 'laws.FnExactImage' holds at every input: impl.Image answers as the model's Image at every arena, in memory of its own, and writes nothing into it. No condition. -/
import Derived.Test.YtmckcnmlhgpnhaaGreatRows
import Derived.Test.YtmckcnmlhgpnhaaGreatKImL
import Derived.Test.YtmckcnmlhgpnhaaGreatKIiD
import Derived.Test.YtmckcnmlhgpnhaaGreatKLawC
import Derived.WalkKit
import Derived.WalkSpells
import Derived.WalkLawsBesides
import Derived.ProofKit
import Derived.OpenShut
import Derived.ShutString
import Derived.ChangeOld
import Derived.Below
import Derived.Outline
import Derived.Lib.SmallJoins
namespace Go.Proofs.YtmckcnmlhgpnhaaGreat
set_option maxRecDepth 20000
open Go.ChangeShapes Go.WideShapes Go.ChangeAt Go.RowKit Go.Joins
set_option linter.unusedVariables false

theorem fnExactImage_walk (aw : Option Addr) (cw : Nat) (ws : List Int) (semi toh top : Int) (cyc : Bool) (scan old copied serial : Int) (ar : Option Addr) (cr : Nat) (rs : List (Int × Int)) (y : Nat → Int) (w : World) (hs : Sl w (.slice aw ws.length cw) ws) (hw : Words64 ws) (hrt : SlF w.heap.size w (.slice ar rs.length cr) rs.length (2 * rs.length) (fun i => .int .i64 (y i))) (hl1 : ws.length ≤ 9223372036854775807) (hl2 : rs.length ≤ 9223372036854775807) :
    Calls Tryz.prog 5 #[.agg #[.slice aw ws.length cw, .int .i64 semi, .int .i64 toh, .int .i64 top, .bool cyc, .int .i64 scan, .int .i64 old, .int .i64 copied, .int .i64 serial, .slice ar rs.length cr]] w fun e w' => e = .returned (.bool true) ∧ Below w.heap.size w w' := by
  by_cases hok : ArOk ws semi toh top cyc scan old copied serial y rs.length
  · obtain ⟨S, T, F, O, hS, hT, hF, hST, hTn, hS2, hF2, hn8, hrl, m1, m2, m3, m4, hO⟩ := ar_image hok
    obtain ⟨s0, s1, hl, t0, t1, _⟩ := num_facts hok.1
    have hIn := imgL_in (scan := scan) (old := old) (copied := copied) (serial := serial) (y := y) (k := rs.length) (S := S) (F := F) (cyc := cyc) (O := O) hw ⟨s0, s1⟩ ⟨t0, t1⟩ hT hTn hn8 hrl m1 m2 m3 m4 (fun h => (hO h).2.2)
    exact fnExactImage_by aw cw ws semi toh top cyc scan old copied serial ar cr rs y w.heap.size w true (bytesU (imgL ws semi toh top cyc scan old copied serial y rs.length S T F O)).length (fun i => (bytesU (imgL ws semi toh top cyc scan old copied serial y rs.length S T F O)).getD i 0) (fun _ _ => by rw [bytesU_len]; have := hIn.2; omega) hs hrt hl1 hl2
      (fun hn hn2 aw cw ar cr W T' h1 h3 h2 => (specImage_yes aw cw ws semi toh top cyc scan old copied serial ar cr rs y T' W _ h1 hn hw h2 hn2 hok hIn (fun V hV => l15Numbers_at aw cw ws semi toh top cyc scan old copied serial ar cr rs y V S T F O (h1.below hV) h3 hw (h2.here.below hV (Nat.le_refl _)).here hok hS hT hF hST hTn hS2 hF2 hn8 hrl m1 m2 m3 m4 hO)).mono fun e w' ⟨v, he, ho, hb⟩ => ⟨v, he, br_own ho, hb⟩)
      (fun hn hn2 aw cw ar cr W T' h1 h3 h2 => (implImage_yes aw cw ws semi toh top cyc scan old copied serial ar cr rs y T' W S T F O h1 h3 hw h2 hok hS hT hF hST hTn hS2 hF2 hn8 hrl m1 m2 m3 m4 hO hIn).mono fun e w' ⟨v, he, ho, hb⟩ => ⟨v, he, br_own ho, hb⟩)
  · exact fnExactImage_by aw cw ws semi toh top cyc scan old copied serial ar cr rs y w.heap.size w false 0 (fun i => ([] : List Int).getD i 0) (fun _ _ => by omega) hs hrt hl1 hl2
      (fun hn hn2 aw cw ar cr W T' h1 _ h2 => (specImage_no aw cw ws semi toh top cyc scan old copied serial ar cr rs y T' W h1 hn hw h2 hn2 hok).mono fun e w' ⟨he, hb⟩ => ⟨_, he, ⟨none, 0, rfl, .inl rfl⟩, hb⟩)
      (fun hn hn2 aw cw ar cr W T' h1 h3 h2 => (implImage_no aw cw ws semi toh top cyc scan old copied serial ar cr rs y T' W h1 h3 hn hw h2 hn2 hok).mono fun e w' ⟨he, hb⟩ => ⟨_, he, ⟨none, 0, rfl, .inl rfl⟩, hb⟩)

theorem own : ownKnob Tryz.prog.godebug = none := by kernel_rfl
theorem laidOut : laidOutB Tryz.prog = true := by kernel_rfl

set_option maxRecDepth 100000 in
theorem lifted (os : Os) (started : os.Started) (H : Type) (enc : TypeId × Value → H) :
    ReturnsInHanded {} Tryz.checked os 5 .any (Rows.fnExactImageSpec.pre6 enc Tryz.prog Tryz.f5 Rows.fnExactImageRow.domain false) (Rows.fnExactImageSpec.post enc Tryz.prog Tryz.f5 false true false false) := by
  refine returnsInHanded_of_change (C := Tryz.checked) own started (by kernel_rfl) Tryz.func5
    (ChangeSpec.witness6 (enc := enc) (C := Tryz.checked) false ⟨#[], #[.agg #[.slice none 0 0, .int .i64 0, .int .i64 0, .int .i64 0, .bool false, .int .i64 0, .int .i64 0, .int .i64 0, .int .i64 0, .slice none 0 0]], []⟩ 8 (by kernel_rfl) (by kernel_rfl) (by kernel_rfl) (by kernel_rfl)) ?_
  intro W base args ds gs before hval0 hW hcnd _
  have hval : ∀ (j : Nat) t v, Tryz.f5.params[j]? = some t → args[j]? = some v → Value.okWide Tryz.prog W .any base t v := hval0
  have hW' := hW
  obtain ⟨p, q, hA0, hV, rfl, hfz, hnd⟩ := hW
  have hA : DataW.TrodAll enc Tryz.prog W 0 (fun _ => true) true Tryz.f5.params.toList args.toList ds p := hA0
  rw [Tryz.params5] at hA hval
  obtain ⟨v0, vs0, d0, ds0, p0, q0, hargs, rfl, rfl, h0, r0⟩ := trodAll_cons hA
  obtain ⟨rfl, rfl, rfl⟩ := trodAll_nil r0
  obtain rfl : args = #[v0] := by cases args; simp_all
  obtain ⟨rfl, rfl⟩ := trodVars_none hV
  have k0 := h0
  have lt0 : ∀ x ∈ p0, x.block < W.heap.size := by obtain ⟨m, hm⟩ := k0; exact DataW.trod_lt m _ _ _ hm
  obtain ⟨aw0, cw0, ws0, se0, to0, tp0, cy0, sc0, ol0, co0, sr0, ar0, cr0, rs0, y0, rfl, w0a, w0b, w0c, w0d, w0e⟩ := open_arena (hval 0 25 v0 rfl rfl) h0
  clear hA0 hval0
  refine (fnExactImage_walk aw0 cw0 ws0 se0 to0 tp0 cy0 sc0 ol0 co0 sr0 ar0 cr0 rs0 y0 W w0a w0b w0c w0d w0e).mono fun e W' ⟨he, bel⟩ => ?_
  subst he
  exact ⟨_, rfl, _, _, _, [], _, [], hW', trodAll_mk1 (shut_bool Tryz.underlying4 _), (trodAll_cons_mk (Below.trod laidOut (by kernel_rfl) (of_decide_eq_true (by kernel_rfl)) k0 bel lt0) trodAll_mk0), rfl, bel.frame _, fun h => by cases h⟩

theorem and_in {a b : Bool} (ha : a = true) (hb : b = true) : (a && b) = true := by rw [ha, hb]; rfl
theorem fits9 : (Rows.fnExactImageRow.inPlace == Tryz.prog.inPlace 5) = true := by kernel_rfl
theorem fits10 : (Rows.fnExactImageRow.unfollowed == Tryz.prog.unfollowed 5) = true := by kernel_rfl
theorem fits11 : (Rows.fnExactImageRow.recurses == Tryz.prog.recurses 5) = true := by kernel_rfl
theorem fits12 : (Rows.fnExactImageRow.named == Tryz.prog.varsNamed 5) = true := by kernel_rfl
theorem ws_word : ∀ (w rest : List Char), (∀ c ∈ w, c ≠ Char.ofNat 32) → wordsSigns (w ++ Char.ofNat 32 :: rest) = w :: wordsSigns rest
  | [], rest, _ => rfl
  | c :: w, rest, h => by
    rw [List.cons_append, wordsSigns.eq_3 _ _ (fun e => h c (List.mem_cons_self ..) e), ws_word w rest (fun x hx => h x (List.mem_cons_of_mem _ hx))]
theorem order_words : ∃ ws, wordsSigns Tryz.prog.initOrder.toList = List.map Char.ofNat [104, 97, 114, 110, 101, 115, 115] :: List.map Char.ofNat [55, 56, 56, 101, 55, 49, 99, 55, 102, 56, 100, 53, 99, 48, 49, 102, 54, 49, 97, 55, 56, 50, 55, 98, 50, 52, 100, 51, 98, 51, 52, 101, 48, 52, 100, 97, 48, 100, 101, 56, 52, 49, 101, 99, 52, 52, 54, 102, 53, 54, 53, 52, 99, 50, 101, 54, 55, 100, 97, 53, 54, 98, 49, 100] :: List.map Char.ofNat [99, 117, 116] :: ws := by
  have h : Tryz.prog.initOrder = String.ofList (List.map Char.ofNat [104, 97, 114, 110, 101, 115, 115] ++ Char.ofNat 32 :: (List.map Char.ofNat [55, 56, 56, 101, 55, 49, 99, 55, 102, 56, 100, 53, 99, 48, 49, 102, 54, 49, 97, 55, 56, 50, 55, 98, 50, 52, 100, 51, 98, 51, 52, 101, 48, 52, 100, 97, 48, 100, 101, 56, 52, 49, 101, 99, 52, 52, 54, 102, 53, 54, 53, 52, 99, 50, 101, 54, 55, 100, 97, 53, 54, 98, 49, 100] ++ Char.ofNat 32 :: (List.map Char.ofNat [99, 117, 116] ++ Char.ofNat 32 :: List.map Char.ofNat [97, 116, 32, 108, 111, 111, 112, 46, 101, 120, 97, 109, 112, 108, 101, 47, 103, 48, 48, 49, 48, 49, 47, 108, 97, 119, 115, 46, 70, 110, 69, 120, 97, 99, 116, 82, 101, 97, 99, 104, 101, 100, 32, 108, 111, 111, 112, 46, 101, 120, 97, 109, 112, 108, 101, 47, 103, 48, 48, 49, 48, 49, 47, 108, 97, 119, 115, 46, 70, 110, 69, 120, 97, 99, 116, 87, 111, 114, 100, 115, 32, 108, 111, 111, 112, 46, 101, 120, 97, 109, 112, 108, 101, 47, 103, 48, 48, 49, 48, 49, 47, 108, 97, 119, 115, 46, 70, 110, 69, 120, 97, 99, 116, 73, 109, 97, 103, 101, 32, 108, 111, 111, 112, 46, 101, 120, 97, 109, 112, 108, 101, 47, 103, 48, 48, 49, 48, 49, 47, 108, 97, 119, 115, 46, 70, 110, 69, 120, 97, 99, 116, 82, 101, 115, 116, 111, 114, 101, 32, 108, 111, 111, 112, 46, 101, 120, 97, 109, 112, 108, 101, 47, 103, 48, 48, 49, 48, 49, 47, 108, 97, 119, 115, 46, 70, 110, 69, 120, 97, 99, 116, 67, 101, 110, 115, 117, 115, 32, 108, 111, 111, 112, 46, 101, 120, 97, 109, 112, 108, 101, 47, 103, 48, 48, 49, 48, 49, 47, 108, 97, 119, 115, 46, 70, 110, 69, 120, 97, 99, 116, 75, 105, 110, 32, 108, 111, 111, 112, 46, 101, 120, 97, 109, 112, 108, 101, 47, 103, 48, 48, 49, 48, 49, 47, 108, 97, 119, 115, 46, 70, 110, 69, 120, 97, 99, 116, 87, 97, 121]))) := by kernel_rfl
  rw [h, String.toList_ofList, ws_word _ _ (by decide +kernel), ws_word _ _ (by decide +kernel), ws_word _ _ (by decide +kernel)]
  exact ⟨_, rfl⟩
theorem cut_is : List.map Char.ofNat [99, 117, 116] = "cut".toList := by decide +kernel
theorem order_cut : ∃ ws, behindMainWord (wordsSigns Tryz.prog.initOrder.toList) = "cut".toList :: ws := by
  obtain ⟨ws, h⟩ := order_words
  refine ⟨ws, ?_⟩
  rw [h, ← cut_is]
  kernel_rfl
theorem strip_cut (ws : List (List Char)) : stripLifts liftWords ("cut".toList :: ws) = ([], "cut".toList :: ws) := by kernel_rfl
theorem make_cut {P : Program} {ws : List (List Char)} (h : behindMainWord (wordsSigns P.initOrder.toList) = "cut".toList :: ws) : P.make = some .cut := by
  unfold Program.make
  rw [h]
  kernel_rfl
theorem enter_cut {P : Program} {ws : List (List Char)} (h : behindMainWord (wordsSigns P.initOrder.toList) = "cut".toList :: ws) (h1 : P.laysLater = false) (h2 : P.bearsReflect = false) (h3 : P.doorFits [] = true) : P.mayEnter = true := by
  unfold Program.mayEnter
  rw [h]
  simp only [strip_cut, h1, h2, h3]
  kernel_rfl
theorem fits25 : Tryz.prog.mayEnter = true := by
  obtain ⟨ws, h⟩ := order_cut
  exact enter_cut h (by kernel_rfl) (by kernel_rfl) (by kernel_rfl)
theorem fits26 : (Rows.fnExactImageRow.lifted == Tryz.prog.liftsFinal) = true := by obtain ⟨ws, h⟩ := order_words; unfold Program.liftsFinal Program.headLifts; rw [h]; kernel_rfl
theorem fits27 : (Tryz.prog.make == some Rows.fnExactImageRow.make) = true := by
  obtain ⟨ws, h⟩ := order_cut
  rw [make_cut h]
  kernel_rfl
theorem fits : joinedFacts Tryz.prog 5 Tryz.f5 Rows.fnExactImageSpec Rows.fnExactImageRow = true := by
  unfold joinedFacts
  iterate 4 refine and_in ?_ (by kernel_rfl)
  refine and_in (and_in (and_in ?_ fits25) fits26) fits27
  iterate 12 refine and_in ?_ (by kernel_rfl)
  exact and_in (and_in (and_in (and_in (by kernel_rfl) fits9) fits10) fits11) fits12
theorem over : Rows.fnExactImageRow.holds Tryz.pinned (OpenSpec.ofChange Rows.fnExactImageSpec) :=
  OpenClaim.holds_of_wide 5 Tryz.f5 rfl rfl rfl rfl rfl rfl rfl ⟨rfl, rfl, rfl, rfl, rfl⟩ rfl rfl rfl rfl rfl (by kernel_rfl) Tryz.func5 fits
    (of_decide_eq_true (by kernel_rfl)) (by unfold Func.isWrapper; first | (rw [if_pos (by decide +kernel)]; kernel_rfl) | (rw [if_neg (by decide +kernel)]; exact ⟨rfl, rfl⟩))
    (fun os started H enc _ => lifted os started H enc)

theorem fnExactImage_holds : Rows.FnExactImageSaid := over

#print axioms fnExactImage_holds
end Go.Proofs.YtmckcnmlhgpnhaaGreat
