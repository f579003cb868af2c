/- 'laws.FnExactBoot' holds at every input: impl.Boot answers as the model's Boot at every module and every size, every field; it writes nothing into the module, and its answer owns its memory. No condition. -/
import Derived.Test.YtblcfbhlmdhnpaaGreatRows
import Derived.Test.YtblcfbhlmdhnpaaGreatBBoJ
import Derived.Test.YtblcfbhlmdhnpaaGreatBMkO
import Derived.ProofKit
import Derived.ShutString
import Derived.ChangeOld
namespace Go.Proofs.YtblcfbhlmdhnpaaGreat
set_option maxRecDepth 20000
open Go.ChangeShapes Go.WideShapes Go.ChangeAt Go.RowKit Go.Joins
set_option linter.unusedVariables false
theorem zcc (a1 : Option Addr) (L1 c1 : Nat) (v1 : Option Addr) (n1 d1 : Nat) (X : Nat -> PtD) (s1 : Nat -> ByteArray) (smz : Int) (w : World) (hs1 : MdF w.heap.size w (.slice a1 L1 c1) (.slice v1 n1 d1) L1 X n1 s1) (m1 : L1 <= 9223372036854775807) (m2 : n1 <= 9223372036854775807) (hX : ∀ j, j < L1 -> PLr (X j)) (gX : ∀ j, j < n1 -> (s1 j).size <= 9223372036854775807) (_ : (Lit.int .i64 smz).wf = true) :
 Calls Tryz.prog 3 #[.agg #[.slice a1 L1 c1, .slice v1 n1 d1], .int .i64 smz] w fun e w' => e = .returned (.bool true) /\ Below w.heap.size w w' :=
 zhb a1 c1 L1 v1 d1 n1 X s1 smz w hs1 m1 m2 hX gX
theorem own : ownKnob Tryz.prog.godebug = none := by kernel_rfl
theorem laidOut : laidOutB Tryz.prog = true := by kernel_rfl
set_option maxRecDepth 100000 in
theorem lifted (os : Os) (started : os.Started) (H : Type) (enc : TypeId × Value -> H) :
 ReturnsInHanded {} Tryz.checked os 3 .any (Rows.fnExactBootSpec.pre6 enc Tryz.prog Tryz.f3 Rows.fnExactBootRow.domain false) (Rows.fnExactBootSpec.post enc Tryz.prog Tryz.f3 false true false false) := by
 refine returnsInHanded_of_change (C := Tryz.checked) own started (by kernel_rfl) Tryz.func3
  (ChangeSpec.witness6 (enc := enc) (C := Tryz.checked) false ⟨#[], #[.agg #[.slice none 0 0, .slice none 0 0], .int .i64 0], []⟩ 8 (by kernel_rfl) (by kernel_rfl) (by kernel_rfl) (by kernel_rfl)) ?_
 intro W base args ds gs before hval0 hW hcnd _
 have hval : ∀ (j : Nat) t v, Tryz.f3.params[j]? = some t -> args[j]? = some v -> Value.okWide Tryz.prog W .any base t v := hval0
 have hW' := hW
 obtain ⟨p, q, hA0, hV, rfl, hfz, hnd⟩ := hW
 have hA : DataW.TrodAll enc Tryz.prog W 0 (fun _ => true) true Tryz.f3.params.toList args.toList ds p := hA0
 rw [Tryz.params3] at hA hval
 obtain ⟨v0, vs0, d0, ds0, p0, q0, hargs, rfl, rfl, h0, r0⟩ := trodAll_cons hA
 obtain ⟨v1, vs1, d1, ds1, p1, q1, rfl, rfl, rfl, h1, r1⟩ := trodAll_cons r0
 obtain ⟨rfl, rfl, rfl⟩ := trodAll_nil r1
 obtain rfl : args = #[v0, v1] := by cases args; simp_all
 obtain ⟨rfl, rfl⟩ := trodVars_none hV
 have k0 := h0
 have lt0 : ∀ x ∈ p0, x.block < W.heap.size := by obtain ⟨m, hm⟩ := k0; exact DataW.trod_lt m _ _ _ hm
 obtain ⟨aa0, na0, ca0, ab0, nb0, cb0, X0, s0, rfl, w0a, w0b, w0c, w0d, w0e⟩ := zff (hval 0 25 v0 rfl rfl) h0
 have k1 := h1
 have lt1 : ∀ x ∈ p1, x.block < W.heap.size := by obtain ⟨m, hm⟩ := k1; exact DataW.trod_lt m _ _ _ hm
 obtain ⟨a1, rfl, rfl, rfl, w1⟩ := open_int Tryz.underlying3 (hval 1 3 v1 rfl rfl) h1
 clear hA0 hval0
 refine (zcc aa0 na0 ca0 ab0 nb0 cb0 X0 s0 a1 W w0a w0b w0c w0d w0e w1).mono fun e W' ⟨he, bel⟩ => ?_
 subst he
 exact ⟨_, rfl, _, _, _, [], _, [], hW', trodAll_mk1 (shut_bool Tryz.underlying4 _), (trodAll_cons_mk (Below.trod laidOut (by kernel_rfl) (of_decide_eq_true (by kernel_rfl)) k0 bel lt0) (trodAll_cons_mk (Below.trod laidOut (by kernel_rfl) (of_decide_eq_true (by kernel_rfl)) k1 bel lt1) trodAll_mk0)), rfl, bel.frame _, fun h => by cases h⟩
theorem zal {a b : Bool} (ha : a = true) (hb : b = true) : (a && b) = true := by rw [ha, hb]; rfl
theorem zh7 : (Rows.fnExactBootRow.inPlace == Tryz.prog.inPlace 3) = true := by kernel_rfl
theorem zhq : (Rows.fnExactBootRow.unfollowed == Tryz.prog.unfollowed 3) = true := by kernel_rfl
theorem zhr : (Rows.fnExactBootRow.recurses == Tryz.prog.recurses 3) = true := by kernel_rfl
theorem zhs : (Rows.fnExactBootRow.named == Tryz.prog.varsNamed 3) = true := by kernel_rfl
theorem zb0 : ∀ (w rest : List Char), (∀ c ∈ w, c ≠ Char.ofNat 32) -> wordsSigns (w ++ Char.ofNat 32 :: rest) = w :: wordsSigns rest
 | [], rest, _ => rfl
 | c :: w, rest, h => by
   rw [List.cons_append, wordsSigns.eq_3 _ _ (fun e => h c (List.mem_cons_self ..) e), zb0 w rest (fun x hx => h x (List.mem_cons_of_mem _ hx))]
theorem zb7 : ∃ ws, wordsSigns Tryz.prog.initOrder.toList = List.map Char.ofNat [104, 97, 114, 110, 101, 115, 115] :: List.map Char.ofNat [99, 53, 54, 53, 98, 48, 48, 50, 54, 53, 100, 50, 98, 98, 102, 102, 102, 101, 97, 50, 49, 56, 100, 102, 97, 101, 97, 50, 99, 97, 97, 54, 100, 53, 49, 57, 50, 51, 48, 97, 98, 50, 54, 55, 97, 56, 50, 54, 50, 49, 57, 48, 52, 102, 97, 56, 48, 101, 98, 101, 98, 57, 100, 51] :: List.map Char.ofNat [99, 117, 116] :: ws := by
 have h : Tryz.prog.initOrder = String.ofList (List.map Char.ofNat [104, 97, 114, 110, 101, 115, 115] ++ Char.ofNat 32 :: (List.map Char.ofNat [99, 53, 54, 53, 98, 48, 48, 50, 54, 53, 100, 50, 98, 98, 102, 102, 102, 101, 97, 50, 49, 56, 100, 102, 97, 101, 97, 50, 99, 97, 97, 54, 100, 53, 49, 57, 50, 51, 48, 97, 98, 50, 54, 55, 97, 56, 50, 54, 50, 49, 57, 48, 52, 102, 97, 56, 48, 101, 98, 101, 98, 57, 100, 51] ++ Char.ofNat 32 :: (List.map Char.ofNat [99, 117, 116] ++ Char.ofNat 32 :: List.map Char.ofNat [97, 116, 32, 108, 111, 111, 112, 46, 101, 120, 97, 109, 112, 108, 101, 47, 103, 48, 48, 49, 48, 49, 47, 108, 97, 119, 115, 46, 70, 110, 69, 120, 97, 99, 116, 66, 111, 111, 116]))) := by kernel_rfl
 rw [h, String.toList_ofList, zb0 _ _ (by decide +kernel), zb0 _ _ (by decide +kernel), zb0 _ _ (by decide +kernel)]
 exact ⟨_, rfl⟩
theorem zht : List.map Char.ofNat [99, 117, 116] = "cut".toList := by decide +kernel
theorem zdi : ∃ ws, behindMainWord (wordsSigns Tryz.prog.initOrder.toList) = "cut".toList :: ws := by
 obtain ⟨ws, h⟩ := zb7
 refine ⟨ws, ?_⟩
 rw [h, <- zht]
 kernel_rfl
theorem zfx (ws : List (List Char)) : stripLifts liftWords ("cut".toList :: ws) = ([], "cut".toList :: ws) := by kernel_rfl
theorem zgp {P : Program} {ws : List (List Char)} (h : behindMainWord (wordsSigns P.initOrder.toList) = "cut".toList :: ws) : P.make = some .cut := by
 unfold Program.make
 rw [h]
 kernel_rfl
theorem zfy {P : Program} {ws : List (List Char)} (h : behindMainWord (wordsSigns P.initOrder.toList) = "cut".toList :: ws) (h1 : P.laysLater = false) (h2 : P.bearsReflect = false) (h3 : P.doorFits [] = true) : P.mayEnter = true := by
 unfold Program.mayEnter
 rw [h]
 simp only [zfx, h1, h2, h3]
 kernel_rfl
theorem zhu : Tryz.prog.mayEnter = true := by
 obtain ⟨ws, h⟩ := zdi
 exact zfy h (by kernel_rfl) (by kernel_rfl) (by kernel_rfl)
theorem zhv : (Rows.fnExactBootRow.lifted == Tryz.prog.liftsFinal) = true := by obtain ⟨ws, h⟩ := zb7; unfold Program.liftsFinal Program.headLifts; rw [h]; kernel_rfl
theorem zhw : (Tryz.prog.make == some Rows.fnExactBootRow.make) = true := by
 obtain ⟨ws, h⟩ := zdi
 rw [zgp h]
 kernel_rfl
theorem zia : joinedFacts Tryz.prog 3 Tryz.f3 Rows.fnExactBootSpec Rows.fnExactBootRow = true := by
 unfold joinedFacts
 iterate 4 refine zal ?_ (by kernel_rfl)
 refine zal (zal (zal ?_ zhu) zhv) zhw
 iterate 12 refine zal ?_ (by kernel_rfl)
 exact zal (zal (zal (zal (by kernel_rfl) zh7) zhq) zhr) zhs
theorem over : Rows.fnExactBootRow.holds Tryz.pinned (OpenSpec.ofChange Rows.fnExactBootSpec) :=
 OpenClaim.holds_of_wide 3 Tryz.f3 rfl rfl rfl rfl rfl rfl rfl ⟨rfl, rfl, rfl, rfl, rfl⟩ rfl rfl rfl rfl rfl (by kernel_rfl) Tryz.func3 zia
  (of_decide_eq_true (by kernel_rfl)) (by unfold Func.isWrapper; first | (rw [if_pos (by decide +kernel)]; kernel_rfl) | (rw [if_neg (by decide +kernel)]; exact ⟨rfl, rfl⟩))
  (fun os started H enc _ => lifted os started H enc)
theorem fnExactBoot_holds : Rows.FnExactBootSaid := over
#print axioms fnExactBoot_holds
end Go.Proofs.YtblcfbhlmdhnpaaGreat
