/- 'laws.FnExactLoad' holds at every input, where errors.errorType is what the program's text lays: impl.Load answers as the model's Load at every arena and all numbers, writes nothing into it, and its answer owns its memory. No other condition. -/
import Derived.Test.YtdnhohndppmgcaaGreatDoorRows
import Derived.Test.YtdnhohndppmgcaaGreatDoorCards
import Derived.Test.YtdnhohndppmgcaaGreatDoorTie
import Derived.ChangeSame
import Derived.ChangeVars
import Derived.JoinedOf
import Derived.RowKit
import Derived.LaidLaws
import Derived.LaidHandle
import Derived.Stop.Joined
import Derived.SevenTiedAt
import Derived.Test.YtdnhohndppmgcaaGreatDoorLLoadL
import Derived.ProofKit
import Derived.ShutString
import Derived.ChangeOld
namespace Go.Proofs.YtdnhohndppmgcaaGreatDoor
set_option maxRecDepth 20000
open Go.ChangeShapes Go.WideShapes Go.ChangeAt Go.RowKit Go.Joins
set_option linter.unusedVariables false
theorem zi3 (aw : Option Addr) (cw : Nat) (ws : List Int) (sm toh top : Int) (cyc : Bool) (sn old cp sr : Int) (ar : Option Addr) (cr : Nat) (rs : List (Int × Int)) (y : Nat -> Int) (r sl f : Int) (w : World) (hs : Sl w (.slice aw ws.length cw) ws) (hw : zg ws) (hrt : SlF w.heap.size w (.slice ar rs.length cr) rs.length (2 * rs.length) (fun i => .int .i64 (y i))) (hl1 : ws.length <= 9223372036854775807) (hl2 : rs.length <= 9223372036854775807) (_ : (Lit.int .i64 r).wf = true) (_ : (Lit.int .i64 sl).wf = true) (_ : (Lit.int .i64 f).wf = true) (hg : w.cell? ⟨0, 0, none⟩ = some (.iface 143 (.agg #[.pointer (some ⟨2, 99, none⟩)]))) :
 Calls Tryz.prog 3 #[.agg #[.slice aw ws.length cw, .int .i64 sm, .int .i64 toh, .int .i64 top, .bool cyc, .int .i64 sn, .int .i64 old, .int .i64 cp, .int .i64 sr, .slice ar rs.length cr], .int .i64 r, .int .i64 sl, .int .i64 f] w fun e w' => e = .returned (.bool true) /\ Below w.heap.size w w' := by
 by_cases hok : zbm ws sm toh top cyc sn old cp sr y rs.length
 · cases hr : zbf r rs.length with
   | false => exact zb2 aw cw ws sm toh top cyc sn old cp sr ar cr rs r sl f y w.heap.size w sm toh top cyc sn old cp sr ws.length rs.length (za ws) y false (fun h _ => h) (fun _ h => h) hs hrt hl1 hl2 (fun hn hn2 aw cw ar cr W T h1 h2 => zoc aw cw ws sm toh top cyc sn old cp sr ar cr rs r sl f y T W h1 hn hw h2 hn2 hok hr) (fun hn hn2 aw cw ar cr W T hB h1 h3 h2 => zhp aw cw ws sm toh top cyc sn old cp sr ar cr rs r sl f y T W h1 h3 hn hw h2 hn2 hok (by rw [hB.cell (p := ⟨0, 0, none⟩) (World.block_lt_of_cell? _ ⟨0, 0, none⟩ hg)]; exact hg) (fun g => by rw [hr] at g; simp at g))
   | true =>
     cases hf : zbf f rs.length with
     | false => exact zb2 aw cw ws sm toh top cyc sn old cp sr ar cr rs r sl f y w.heap.size w sm toh top cyc sn old cp sr ws.length rs.length (za ws) y false (fun h _ => h) (fun _ h => h) hs hrt hl1 hl2 (fun hn hn2 aw cw ar cr W T h1 h2 => zod aw cw ws sm toh top cyc sn old cp sr ar cr rs r sl f y T W h1 hn hw h2 hn2 hok hr hf) (fun hn hn2 aw cw ar cr W T hB h1 h3 h2 => zhp aw cw ws sm toh top cyc sn old cp sr ar cr rs r sl f y T W h1 h3 hn hw h2 hn2 hok (by rw [hB.cell (p := ⟨0, 0, none⟩) (World.block_lt_of_cell? _ ⟨0, 0, none⟩ hg)]; exact hg) (fun g => by rw [hf] at g; simp at g))
     | true =>
       have hr' := of_decide_eq_true hr
       have hf' := of_decide_eq_true hf
       obtain ⟨k, rfl⟩ := Int.eq_ofNat_of_zero_le hr'.1
       obtain ⟨j, rfl⟩ := Int.eq_ofNat_of_zero_le hf'.1
       have hk : k < rs.length := by omega
       have hj : j < rs.length := by omega
       cases hr0 : isR (y (2 * k)) with
       | false => exact zb2 aw cw ws sm toh top cyc sn old cp sr ar cr rs (k : Int) sl (j : Int) y w.heap.size w sm toh top cyc sn old cp sr ws.length rs.length (za ws) y false (fun h _ => h) (fun _ h => h) hs hrt hl1 hl2 (fun hn hn2 aw cw ar cr W T h1 h2 => zoe aw cw ws sm toh top cyc sn old cp sr ar cr rs k j sl y T W h1 hn hw h2 hn2 hok hk hj hr0) (fun hn hn2 aw cw ar cr W T hB h1 h3 h2 => zhq aw cw ws sm toh top cyc sn old cp sr ar cr rs k j sl y T W h1 h3 hn hw h2 hn2 hok (by rw [hB.cell (p := ⟨0, 0, none⟩) (World.block_lt_of_cell? _ ⟨0, 0, none⟩ hg)]; exact hg) hk hj (fun g => by rw [hr0] at g; simp at g))
       | true =>
         by_cases h4 : y (2 * k) = 4
         · exact zb2 aw cw ws sm toh top cyc sn old cp sr ar cr rs (k : Int) sl (j : Int) y w.heap.size w sm toh top cyc sn old cp sr ws.length rs.length (za ws) y false (fun h _ => h) (fun _ h => h) hs hrt hl1 hl2 (fun hn hn2 aw cw ar cr W T h1 h2 => zof aw cw ws sm toh top cyc sn old cp sr ar cr rs k j sl y T W h1 hn hw h2 hn2 hok hk hj h4) (fun hn hn2 aw cw ar cr W T hB h1 h3 h2 => zhq aw cw ws sm toh top cyc sn old cp sr ar cr rs k j sl y T W h1 h3 hn hw h2 hn2 hok (by rw [hB.cell (p := ⟨0, 0, none⟩) (World.block_lt_of_cell? _ ⟨0, 0, none⟩ hg)]; exact hg) hk hj (fun _ => h4))
         · obtain ⟨P, hp, hP, hrd⟩ := zwq hw hok hk hr0
           cases hin : inB sl 0 ((zat ws P : Nat) - 1) with
           | false => exact zb2 aw cw ws sm toh top cyc sn old cp sr ar cr rs (k : Int) sl (j : Int) y w.heap.size w sm toh top cyc sn old cp sr ws.length rs.length (za ws) y false (fun h _ => h) (fun _ h => h) hs hrt hl1 hl2 (fun hn hn2 aw cw ar cr W T h1 h2 => zog aw cw ws sm toh top cyc sn old cp sr ar cr rs k j sl y T W h1 hn hw h2 hn2 hok hk hj P hr0 h4 hp hP hin) (fun hn hn2 aw cw ar cr W T hB h1 h3 h2 => zl5 aw cw ws sm toh top cyc sn old cp sr ar cr rs k j P sl y T W h1 h3 hn hw h2 hn2 hok (by rw [hB.cell (p := ⟨0, 0, none⟩) (World.block_lt_of_cell? _ ⟨0, 0, none⟩ hg)]; exact hg) hk hj hr0 h4 hp hP hrd hin)
           | true =>
             have hi := of_decide_eq_true hin
             obtain ⟨s, rfl⟩ := Int.eq_ofNat_of_zero_le hi.1
             have hs3 : s < zat ws P := by omega
             by_cases hsz : ws.length <= 1048576
             · obtain ⟨T3, C3, m3, ws3, hl3, hls, hli⟩ := zua hw hok hsz hk hr0 hp hs3
               exact zb2 aw cw ws sm toh top cyc sn old cp sr ar cr rs (k : Int) (s : Int) (j : Int) y w.heap.size w sm toh T3 cyc sn old C3 sr ws.length rs.length (za ws3) (fun i => if i = 2 * j then rvT ws (zn ws P s) else if i = 2 * j + 1 then m3 else y i) true (fun h _ => h) (fun _ h => h) hs hrt hl1 hl2 (fun hn hn2 aw cw ar cr W T h1 h2 => zoa aw cw ws sm toh top cyc sn old cp sr ar cr rs k j s T3 C3 (rvT ws (zn ws P s)) m3 ws3 y T W h1 hn hw h2 hn2 hok hk hj P hr0 h4 hp hP hs3 hrd hls hl3) (fun hn hn2 aw cw ar cr W T hB h1 h3 h2 => zl6 aw cw ws sm toh top cyc sn old cp sr ar cr rs k j P s T3 C3 m3 ws3 y T W h1 h3 hn hw h2 hn2 hok hk hj hr0 h4 hp hP hrd hs3 hl3 hli)
             · exact zb2 aw cw ws sm toh top cyc sn old cp sr ar cr rs (k : Int) (s : Int) (j : Int) y w.heap.size w sm toh top cyc sn old cp sr ws.length rs.length (za ws) y false (fun h _ => h) (fun _ h => h) hs hrt hl1 hl2 (fun hn hn2 aw cw ar cr W T h1 h2 => absurd hn hsz) (fun hn hn2 aw cw ar cr W T hB h1 h3 h2 => absurd hn hsz)
 · exact zb2 aw cw ws sm toh top cyc sn old cp sr ar cr rs r sl f y w.heap.size w sm toh top cyc sn old cp sr ws.length rs.length (za ws) y false (fun h _ => h) (fun _ h => h) hs hrt hl1 hl2 (fun hn hn2 aw cw ar cr W T h1 h2 => zob aw cw ws sm toh top cyc sn old cp sr ar cr rs r sl f y T W h1 hn hw h2 hn2 hok) (fun hn hn2 aw cw ar cr W T hB h1 h3 h2 => zl4 aw cw ws sm toh top cyc sn old cp sr ar cr rs r sl f y T W h1 h3 hn hw h2 hn2 hok)
theorem own : ownKnob Tryz.prog.godebug = none := by kernel_rfl
theorem laidOut : laidOutB Tryz.prog = true := by kernel_rfl
theorem et : Tryz.prog.globalNamed "errors.errorType" = some 0 := by kernel_rfl
theorem rt : (Tryz.prog.cutTypes.find? (·.1 == "internal/reflectlite.rtype")).map (·.2) = some 143 := by kernel_rfl
theorem zwt : ((List.range 244).filter fun t => Tryz.prog.rowNamed t [101, 114, 114, 111, 114]) = [99] := by kernel_rfl
theorem zxg : Tryz.prog.types.size = 244 := by kernel_rfl
theorem zkn {W : World} (h : laidMetH Tryz.prog Rows.fnExactLoadRow.laid W) : W.cell? ⟨0, 0, none⟩ = some (.iface 143 (.agg #[.pointer (some ⟨2, 99, none⟩)])) := by
 have h' : laidMet Tryz.prog [] W /\ handlesMet Tryz.prog Rows.fnExactLoadRow.laid W := h
 obtain ⟨name, u, ty, e1, e2, e3, e4, e5⟩ := h'.2 _ (List.mem_singleton.2 rfl)
 have en : name = [101, 114, 114, 111, 114] := (Option.some.inj e1).symm
 subst en
 obtain rfl := Option.some.inj (rt.symm.trans e2)
 have hm : ty ∈ (List.range 244).filter fun t => Tryz.prog.rowNamed t [101, 114, 114, 111, 114] := List.mem_filter.2 ⟨List.mem_range.2 (by rw [<- zxg]; exact e3), e4⟩
 rw [zwt] at hm
 obtain rfl := List.mem_singleton.1 hm
 have hh : typeHandle Tryz.prog 99 = .pointer (some ⟨2, 99, none⟩) := by kernel_rfl
 rw [hh] at e5
 simpa using World.var?_cell et e5 0
set_option maxRecDepth 100000 in
theorem lifted (os : Os) (started : os.Started) (H : Type) (enc : TypeId × Value -> H) :
 ReturnsInHanded {} Tryz.checked os 3 .any (fun w args => (Rows.fnExactLoadSpec.pre enc Tryz.prog Tryz.f3 [] false w args /\ laidMetH Tryz.prog Rows.fnExactLoadRow.laid w) /\ sizedMet enc Tryz.prog Tryz.f3 (OpenSpec.ofChange Rows.fnExactLoadSpec) false w args) (Rows.fnExactLoadSpec.post enc Tryz.prog Tryz.f3 false true false false) := by
 refine returnsInHanded_of_change_and (C := Tryz.checked) (X := fun w _ => laidMetH Tryz.prog Rows.fnExactLoadRow.laid w) (fun _ _ _ hh h => h.of_heap hh) own started (by kernel_rfl) Tryz.func3
  (ChangeSpec.witness_at (enc := enc) (C := Tryz.checked) (os := os) (X := fun w _ => laidMetH Tryz.prog Rows.fnExactLoadRow.laid w) false { World.holding Tryz.prog os ⟨#[], #[], []⟩ with heap := (World.holding Tryz.prog os ⟨#[], #[], []⟩).heap.modify 0 fun
    | .cells _ t frozen => .cells #[.iface 143 (.agg #[.pointer (some ⟨2, 99, none⟩)])] t frozen
    | o => o } #[.agg #[.slice none 0 0, .int .i64 0, .int .i64 0, .int .i64 0, .bool false, .int .i64 0, .int .i64 0, .int .i64 0, .int .i64 0, .slice none 0 0], .int .i64 0, .int .i64 0, .int .i64 0] 8 rfl (by kernel_rfl) (by kernel_rfl) (by kernel_rfl) (by kernel_rfl) (by kernel_rfl) (laidMetH_of_parts (laidMet_nil _ _) (by kernel_rfl))) ?_
 intro W base args ds gs before hval0 hW _ _ hL _
 have hval : ∀ (j : Nat) t v, Tryz.f3.params[j]? = some t -> args[j]? = some v -> Value.okWide Tryz.prog W .any base t v := hval0
 have hW' := hW
 obtain ⟨p, q, hA0, hV, rfl, hfz, hnd⟩ := hW
 have hA : DataW.TrodAll enc Tryz.prog W 0 (fun _ => true) true Tryz.f3.params.toList args.toList ds p := hA0
 rw [Tryz.params3] at hA hval
 obtain ⟨v0, vs0, d0, ds0, p0, q0, hargs, rfl, rfl, h0, r0⟩ := trodAll_cons hA
 obtain ⟨v1, vs1, d1, ds1, p1, q1, rfl, rfl, rfl, h1, r1⟩ := trodAll_cons r0
 obtain ⟨v2, vs2, d2, ds2, p2, q2, rfl, rfl, rfl, h2, r2⟩ := trodAll_cons r1
 obtain ⟨v3, vs3, d3, ds3, p3, q3, rfl, rfl, rfl, h3, r3⟩ := trodAll_cons r2
 obtain ⟨rfl, rfl, rfl⟩ := trodAll_nil r3
 obtain rfl : args = #[v0, v1, v2, v3] := by cases args; simp_all
 obtain ⟨rfl, rfl⟩ := trodVars_none hV
 have k0 := h0
 have lt0 : ∀ x ∈ p0, x.block < W.heap.size := by obtain ⟨m, hm⟩ := k0; exact DataW.trod_lt m _ _ _ hm
 obtain ⟨aw0, cw0, ws0, se0, to0, tp0, cy0, sc0, ol0, co0, sr0, ar0, cr0, rs0, y0, rfl, w0a, w0b, w0c, w0d, w0e⟩ := zse (hval 0 25 v0 rfl rfl) h0
 have k1 := h1
 have lt1 : ∀ x ∈ p1, x.block < W.heap.size := by obtain ⟨m, hm⟩ := k1; exact DataW.trod_lt m _ _ _ hm
 obtain ⟨a1, rfl, rfl, rfl, w1⟩ := open_int Tryz.underlying3 (hval 1 3 v1 rfl rfl) h1
 have k2 := h2
 have lt2 : ∀ x ∈ p2, x.block < W.heap.size := by obtain ⟨m, hm⟩ := k2; exact DataW.trod_lt m _ _ _ hm
 obtain ⟨a2, rfl, rfl, rfl, w2⟩ := open_int Tryz.underlying3 (hval 2 3 v2 rfl rfl) h2
 have k3 := h3
 have lt3 : ∀ x ∈ p3, x.block < W.heap.size := by obtain ⟨m, hm⟩ := k3; exact DataW.trod_lt m _ _ _ hm
 obtain ⟨a3, rfl, rfl, rfl, w3⟩ := open_int Tryz.underlying3 (hval 3 3 v3 rfl rfl) h3
 clear hA0 hval0
 refine (zi3 aw0 cw0 ws0 se0 to0 tp0 cy0 sc0 ol0 co0 sr0 ar0 cr0 rs0 y0 a1 a2 a3 W w0a w0b w0c w0d w0e w1 w2 w3 (zkn hL)).mono fun e W' ⟨he, bel⟩ => ?_
 subst he
 exact ⟨_, rfl, _, _, _, [], _, [], hW', trodAll_mk1 (shut_bool Tryz.underlying4 _), (trodAll_cons_mk (Below.trod laidOut (by kernel_rfl) (of_decide_eq_true (by kernel_rfl)) k0 bel lt0) (trodAll_cons_mk (Below.trod laidOut (by kernel_rfl) (of_decide_eq_true (by kernel_rfl)) k1 bel lt1) (trodAll_cons_mk (Below.trod laidOut (by kernel_rfl) (of_decide_eq_true (by kernel_rfl)) k2 bel lt2) (trodAll_cons_mk (Below.trod laidOut (by kernel_rfl) (of_decide_eq_true (by kernel_rfl)) k3 bel lt3) trodAll_mk0)))), rfl, bel.frame _, fun h => by cases h⟩
theorem zet {a b : Bool} (ha : a = true) (hb : b = true) : (a && b) = true := by rw [ha, hb]; rfl
theorem zxh : (Rows.fnExactLoadRow.inPlace == Tryz.prog.inPlace 3) = true := by kernel_rfl
theorem zwu : (Rows.fnExactLoadRow.unfollowed == Tryz.prog.unfollowed 3) = true := by kernel_rfl
theorem zwv : (Rows.fnExactLoadRow.recurses == Tryz.prog.recurses 3) = true := by kernel_rfl
theorem zww : (Rows.fnExactLoadRow.named == Tryz.prog.varsNamed 3) = true := by kernel_rfl
theorem zia : ∀ (w rest : List Char), (∀ c ∈ w, c ≠ Char.ofNat 32) -> wordsSigns (w ++ Char.ofNat 32 :: rest) = w :: wordsSigns rest
 | [], rest, _ => rfl
 | c :: w, rest, h => by
   rw [List.cons_append, wordsSigns.eq_3 _ _ (fun e => h c (List.mem_cons_self ..) e), zia w rest (fun x hx => h x (List.mem_cons_of_mem _ hx))]
theorem zis : ∃ ws, wordsSigns Tryz.prog.initOrder.toList = List.map Char.ofNat [104, 97, 114, 110, 101, 115, 115] :: List.map Char.ofNat [102, 102, 100, 54, 48, 102, 54, 101, 52, 56, 56, 55, 52, 54, 54, 56, 101, 52, 49, 49, 51, 98, 57, 99, 50, 102, 49, 97, 100, 54, 54, 100, 49, 102, 52, 55, 56, 102, 50, 52, 53, 98, 54, 100, 53, 97, 98, 55, 99, 54, 52, 100, 49, 98, 51, 53, 52, 51, 49, 97, 99, 52, 100, 98] :: List.map Char.ofNat [99, 117, 116] :: ws := by
 have h : Tryz.prog.initOrder = String.ofList (List.map Char.ofNat [104, 97, 114, 110, 101, 115, 115] ++ Char.ofNat 32 :: (List.map Char.ofNat [102, 102, 100, 54, 48, 102, 54, 101, 52, 56, 56, 55, 52, 54, 54, 56, 101, 52, 49, 49, 51, 98, 57, 99, 50, 102, 49, 97, 100, 54, 54, 100, 49, 102, 52, 55, 56, 102, 50, 52, 53, 98, 54, 100, 53, 97, 98, 55, 99, 54, 52, 100, 49, 98, 51, 53, 52, 51, 49, 97, 99, 52, 100, 98] ++ Char.ofNat 32 :: (List.map Char.ofNat [99, 117, 116] ++ Char.ofNat 32 :: List.map Char.ofNat [97, 116, 32, 108, 111, 111, 112, 46, 101, 120, 97, 109, 112, 108, 101, 47, 103, 48, 48, 49, 48, 49, 47, 108, 97, 119, 115, 46, 70, 110, 69, 120, 97, 99, 116, 76, 111, 97, 100, 32, 108, 111, 111, 112, 46, 101, 120, 97, 109, 112, 108, 101, 47, 103, 48, 48, 49, 48, 49, 47, 108, 97, 119, 115, 46, 70, 110, 69, 120, 97, 99, 116, 78, 101, 119, 67, 101, 108, 108, 32, 108, 111, 111, 112, 46, 101, 120, 97, 109, 112, 108, 101, 47, 103, 48, 48, 49, 48, 49, 47, 108, 97, 119, 115, 46, 70, 110, 69, 120, 97, 99, 116, 78, 101, 119, 70, 117, 110, 32, 108, 111, 111, 112, 46, 101, 120, 97, 109, 112, 108, 101, 47, 103, 48, 48, 49, 48, 49, 47, 108, 97, 119, 115, 46, 70, 110, 69, 120, 97, 99, 116, 80, 117, 116, 84, 101, 120, 116, 32, 108, 111, 111, 112, 46, 101, 120, 97, 109, 112, 108, 101, 47, 103, 48, 48, 49, 48, 49, 47, 108, 97, 119, 115, 46, 70, 110, 69, 120, 97, 99, 116, 74, 111, 105, 110, 84, 101, 120, 116, 32, 108, 111, 111, 112, 46, 101, 120, 97, 109, 112, 108, 101, 47, 103, 48, 48, 49, 48, 49, 47, 108, 97, 119, 115, 46, 70, 110, 69, 120, 97, 99, 116, 78, 101, 119, 84, 97, 98, 32, 108, 111, 111, 112, 46, 101, 120, 97, 109, 112, 108, 101, 47, 103, 48, 48, 49, 48, 49, 47, 108, 97, 119, 115, 46, 70, 110, 69, 120, 97, 99, 116, 71, 101, 116, 75, 101, 121, 32, 108, 111, 111, 112, 46, 101, 120, 97, 109, 112, 108, 101, 47, 103, 48, 48, 49, 48, 49, 47, 108, 97, 119, 115, 46, 70, 110, 69, 120, 97, 99, 116, 83, 101, 116, 75, 101, 121]))) := by kernel_rfl
 rw [h, String.toList_ofList, zia _ _ (by decide +kernel), zia _ _ (by decide +kernel), zia _ _ (by decide +kernel)]
 exact ⟨_, rfl⟩
theorem zwx : List.map Char.ofNat [99, 117, 116] = "cut".toList := by decide +kernel
theorem zk2 : ∃ ws, behindMainWord (wordsSigns Tryz.prog.initOrder.toList) = "cut".toList :: ws := by
 obtain ⟨ws, h⟩ := zis
 refine ⟨ws, ?_⟩
 rw [h, <- zwx]
 kernel_rfl
theorem zsf (ws : List (List Char)) : stripLifts liftWords ("cut".toList :: ws) = ([], "cut".toList :: ws) := by kernel_rfl
theorem zuc {P : Program} {ws : List (List Char)} (h : behindMainWord (wordsSigns P.initOrder.toList) = "cut".toList :: ws) : P.make = some .cut := by
 unfold Program.make
 rw [h]
 kernel_rfl
theorem zsg {P : Program} {ws : List (List Char)} (h : behindMainWord (wordsSigns P.initOrder.toList) = "cut".toList :: ws) (h1 : P.laysLater = false) (h2 : P.bearsReflect = false) (h3 : P.doorFits [] = true) : P.mayEnter = true := by
 unfold Program.mayEnter
 rw [h]
 simp only [zsf, h1, h2, h3]
 kernel_rfl
theorem zwy : Tryz.prog.mayEnter = true := by
 obtain ⟨ws, h⟩ := zk2
 exact zsg h (by kernel_rfl) (by kernel_rfl) (by kernel_rfl)
theorem zwz : (Rows.fnExactLoadRow.lifted == Tryz.prog.liftsFinal) = true := by obtain ⟨ws, h⟩ := zis; unfold Program.liftsFinal Program.headLifts; rw [h]; kernel_rfl
theorem zw0 : (Tryz.prog.make == some Rows.fnExactLoadRow.make) = true := by
 obtain ⟨ws, h⟩ := zk2
 rw [zuc h]
 kernel_rfl
theorem zxu : joinedFacts Tryz.prog 3 Tryz.f3 Rows.fnExactLoadSpec Rows.fnExactLoadRow = true := by
 unfold joinedFacts
 iterate 4 refine zet ?_ (by kernel_rfl)
 refine zet (zet (zet ?_ zwy) zwz) zw0
 iterate 12 refine zet ?_ (by kernel_rfl)
 exact zet (zet (zet (zet (by kernel_rfl) zxh) zwu) zwv) zww
theorem over : Rows.fnExactLoadRow.holds Tryz.pinned (OpenSpec.ofChange Rows.fnExactLoadSpec) :=
 OpenClaim.holds_of_wide 3 Tryz.f3 rfl rfl rfl rfl rfl rfl rfl ⟨rfl, rfl, rfl, rfl, rfl⟩ rfl rfl rfl rfl rfl (by kernel_rfl) Tryz.func3 zxu
  (of_decide_eq_true (by kernel_rfl)) (by unfold Func.isWrapper; first | (rw [if_pos (by decide +kernel)]; kernel_rfl) | (rw [if_neg (by decide +kernel)]; exact ⟨rfl, rfl⟩))
  (fun os started H enc _ => lifted os started H enc)
theorem zud : Rows.FnExactLoadSaid := over
theorem zsh : Tryz.prog.mainIs = some (true, "ffd60f6e48874668e4113b9c2f1ad66d1f478f245b6d5ab7c64d1b35431ac4db".toList) := by kernel_rfl
theorem zp7 : true = Tryz.prog.looks [] := by kernel_rfl
theorem zsi : false = Rows.fnExactLoadRow.goesBy Tryz.prog := by kernel_rfl
theorem zsj : Tryz.prog.funcNamed "loop.example/g00101/laws.FnExactLoad" = some 3 := by kernel_rfl
theorem zv3 : Rows.fnExactLoadRow.wfByText (OpenSpec.ofChange Rows.fnExactLoadSpec) = true := by kernel_rfl
theorem fnExactLoad_holds : Rows.FnExactLoadCardSaid :=
 Claim7.holds_tied_plain_at .later [] [.handle] true (true, "ffd60f6e48874668e4113b9c2f1ad66d1f478f245b6d5ab7c64d1b35431ac4db") true
  over (fun _ h => by cases h) zv3 (fun _ h => by cases h) fnExactLoad_row_tie rfl ⟨rfl, rfl⟩ zsh rfl
  (fun f fn hf hfn => by
    obtain rfl : f = 3 := (Option.some.inj (zsj.symm.trans hf)).symm
    obtain rfl : fn = Tryz.f3 := (Option.some.inj (Tryz.func3.symm.trans hfn)).symm
    exact ⟨zp7, fun j t ht => by
     rw [Tryz.params3] at ht
     match j with
     | 0 => simp at ht; subst ht; exact (show Tryz.prog.wantsStandIn 25 = false by kernel_rfl)
     | 1 => simp at ht; subst ht; exact (show Tryz.prog.wantsStandIn 3 = false by kernel_rfl)
     | 2 => simp at ht; subst ht; exact (show Tryz.prog.wantsStandIn 3 = false by kernel_rfl)
     | 3 => simp at ht; subst ht; exact (show Tryz.prog.wantsStandIn 3 = false by kernel_rfl)
     | j + 4 => simp at ht⟩)
  zsi
#print axioms fnExactLoad_holds
end Go.Proofs.YtdnhohndppmgcaaGreatDoor
