/- - -/
import Derived.Test.YtdnhohndppmgcaaGreatDoorLPutA
import Derived.Test.YtdnhohndppmgcaaGreatDoorLLawC
namespace Go.Proofs.YtdnhohndppmgcaaGreatDoor
set_option maxRecDepth 20000
open Go.RowKit
set_option linter.unusedSimpArgs false
set_option linter.unusedVariables false
def zdh (n : Nat) (y : Nat -> Int) : List Value := (List.range (n * 2)).map fun i => .int .i64 (y i)
theorem zhl (n : Nat) (y : Nat -> Int) : (zdh n y).length = n * 2 := by simp [zdh]
theorem zjp (n : Nat) (y : Nat -> Int) : ∀ u ∈ zdh n y, u.oneCell' = true := by
 intro u hu
 obtain ⟨z, _, rfl⟩ := List.mem_map.1 hu
 rfl
theorem zk5 {n : Nat} {y : Nat -> Int} {j : Nat} {u : Value} (h : (zdh n y)[j]? = some u) : j < n * 2 /\ u = .int .i64 (y j) := by
 unfold zdh at h
 rw [List.getElem?_map] at h
 by_cases hj : j < n * 2
 · rw [List.getElem?_range hj] at h
   simp at h
   exact ⟨hj, h.symm⟩
 · rw [List.getElem?_eq_none (by simp; omega)] at h
   simp at h
theorem zlm {w : World} {b n : Nat} {y : Nat -> Int} (h : w.heap[b]? = some (.cells (zdh n y).toArray 57 (0, 0))) : w.rowIs b 57 (n * 2) (fun i => .int .i64 (y i)) := by
 refine ⟨_, h, by simp [zdh], fun i hi => ?_⟩
 simp [zdh, hi]
theorem zko (P : Program) (w : World) (dT sT ty elem : TypeId) (g n dCap : Nat) (a : Addr) (sCap : Nat) (cur : Array Value) (t : TypeId) (cs : List Value)
 (hu : P.underlying dT = some (.slice elem)) (hs : (P.info? elem).map (·.size) = some 2) (hg : w.heap[g]? = some (.cells cur t (0, 0))) (hn : cs.length = n * 2)
 (hsrc : ∀ j v, cs[j]? = some v -> w.cell? (a.add j) = some v) (hfit : cs.length = cur.size) (h1 : ∀ v ∈ cs, v.oneCell' = true) :
 (Builtin.copy_ #[dT, sT] ty #[.slice (some ⟨g, 0, none⟩) n dCap, .slice (some a) n sCap]).run P w = .ok (goInt n) (w.setRow g cs.toArray) := by
 have hl := run_loadCells_list (P := P) w a cs hsrc
 have hst := run_storeCells_at P g 0 t cs 0 cur w hg (by omega) h1
 have hd : cur.toList.drop cs.length = [] := by rw [List.drop_eq_nil_iff]; simp; omega
 cases hq : P.info? elem with
 | none => simp [hq] at hs
 | some i =>
   have hi : i.size = 2 := by simpa [hq] using hs
   have hm : Nat.min n n = n := Nat.min_self n
   simp only [Nat.add_zero, Nat.zero_add, List.take_zero, List.nil_append, hd, List.append_nil] at hst
   simp [Builtin.copy_, run_underlying hu, Builtin.lenOf, Builtin.firstCells, sizeOf, typeInfo, hq, hi, hm, <- hn, hl, hst]
theorem zkp (P : Program) (w : World) (dT sT ty elem : TypeId) (d a : Option Addr) (dCap sCap : Nat) (hu : P.underlying dT = some (.slice elem)) (hs : (P.info? elem).map (·.size) = some 2) :
 (Builtin.copy_ #[dT, sT] ty #[.slice d 0 dCap, .slice a 0 sCap]).run P w = .ok (goInt 0) w := by
 cases hq : P.info? elem with
 | none => simp [hq] at hs
 | some i =>
   have hl : ∀ (x : Addr), (loadCells x 0).run P w = .ok #[] w := fun x => by simpa using run_loadCells_list (P := P) w x [] (by simp)
   have hm : Nat.min 0 0 = 0 := rfl
   cases d <;> cases a <;> simp [Builtin.copy_, run_underlying hu, Builtin.lenOf, Builtin.firstCells, sizeOf, typeInfo, hq, hm, storeCells, hl]
theorem zik {P : Program} {w : World} {ops : Array Oper} {rest : List Oper} {o : Oper} {a : Act} {Q : Exit -> Act -> World -> Prop} (hgd : o.guard = none) (d s : Operand) (dT sT : TypeId)
 (ho : o.op = .call { callee := .builtin .copy, args := #[d, s], argTypes := #[dT, sT] }) (elem : TypeId) (hu : P.underlying dT = some (.slice elem)) (hsz : (P.info? elem).map (·.size) = some 2)
 (g n dCap : Nat) (sp : Option Addr) (sCap : Nat) (hd : a.eval d = .slice (some ⟨g, 0, none⟩) n dCap) (hs : a.eval s = .slice sp n sCap)
 (cur : Array Value) (t : TypeId) (hg : w.heap[g]? = some (.cells cur t (0, 0))) (hcur : cur.size = n * 2) (cs : List Value) (hn : cs.length = n * 2)
 (hpos : 0 < n -> ∃ ad, sp = some ad /\ ∀ j v, cs[j]? = some v -> w.cell? (ad.add j) = some v) (h1 : ∀ v ∈ cs, v.oneCell' = true) (B : Nat) (w0 : World) (hb : Below B w0 w) (hBg : B <= g)
 (h : ∀ w', Hid (w'.heap[g]? = some (.cells cs.toArray t (0, 0))) -> Below B w0 w' -> wpList P ops Q rest (a.put o.dst (goInt n)) w') :
 wpList P ops Q (o :: rest) a w := by
 refine wpList_plain hgd fun K hK => ?_
 by_cases h0 : n = 0
 · subst h0
   obtain rfl : cs = [] := List.eq_nil_of_length_eq_zero (by omega)
   obtain rfl : cur = #[] := Array.eq_empty_of_size_eq_zero (by omega)
   have hrun := zkp P w dT sT o.type elem (some ⟨g, 0, none⟩) sp dCap sCap hu hsz
   unfold Oper.wp
   simp [execOp, ho, resolve, invoke, builtin, hd, hs, hrun, Result.andThen]
   exact hK _ _ (h w (show _ = _ by simpa using hg) hb)
 · obtain ⟨ad, rfl, hsrc⟩ := hpos (by omega)
   have hrun := zko P w dT sT o.type elem g n dCap ad sCap cur t cs hu hsz hg hn hsrc (by omega) h1
   unfold Oper.wp
   simp [execOp, ho, resolve, invoke, builtin, hd, hs, hrun, Result.andThen]
   exact hK _ _ (h _ (show _ = _ by simpa using setRow_heap w g _ _ t _ hg) (below_setRow hb hBg _))
theorem zqb {B : Nat} {w : World} {v : Value} {zs : List Int} (h : Own B w v zs) : zab B w.heap.size 77 w v zs.length zs.length (fun i => .int .u64 (za zs i)) := by
 obtain ⟨a, cap, rfl, h⟩ := h
 refine ⟨a, cap, rfl, ?_⟩
 rcases h with rfl | ⟨b, n, f, rfl, hB, hn, hr, hf⟩
 · exact .inl rfl
 · exact .inr ⟨b, n, f, rfl, hB, hr.lt, hn, hr, hf⟩
theorem zl9 {B : Nat} {w : World} {v : Value} {n : Nat} {y : Nat -> Int} (h : w.ownsRow B 57 2 v n (zdh n y)) : zab B w.heap.size 57 w v n (2 * n) (fun i => .int .i64 (y i)) := by
 obtain ⟨_, ⟨rfl, h0⟩ | ⟨g, cap, cur, rfl, hB, hg, hle, _, hcs, htk⟩⟩ := h
 · subst h0
   exact ⟨none, 0, rfl, .inl rfl⟩
 · have hr : w.rowIs g 57 (cap * 2) (fun i => cur.getD i (.bool false)) := ⟨cur, hg, by omega, fun i hi => by simp [Array.getD, show i < cur.size by omega]⟩
   refine ⟨_, cap, rfl, .inr ⟨g, cap * 2, fun i => cur.getD i (.bool false), rfl, hB, hr.lt, by omega, hr, fun i hi => ?_⟩⟩
   have h1 : (cur.toList.take (n * 2))[i]? = (zdh n y)[i]? := by rw [htk]
   rw [List.getElem?_take] at h1
   have hi' : i < n * 2 := by omega
   simp [zdh, hi'] at h1
   simp [Array.getD, show i < cur.size by omega]
   have h2 := h1
   rw [Array.getElem?_eq_getElem (by omega)] at h2
   simpa using h2
theorem zic {w w' : World} {A : Array Value} {t : TypeId} {C n : Nat} (hB : Below C (w.alloc (.cells A t)) w') (hC : w.heap.size < C) (hA : A.size = n) : w'.rowIs w.heap.size t n (fun i => A.getD i (.bool false)) :=
 ⟨A, (hB.block _ hC).trans (zaq rfl), hA, fun i hi => by simp [Array.getD, show i < A.size by omega]⟩
theorem zce {W : World} {b : Nat} {t : TypeId} {c0 c1 c2 c3 c4 c5 c6 c7 c8 c9 : Value} {f : Nat -> Value} (h : W.rowIs b t 10 f) (h0 : f 0 = c0) (h1 : f 1 = c1) (h2 : f 2 = c2) (h3 : f 3 = c3) (h4 : f 4 = c4) (h5 : f 5 = c5) (h6 : f 6 = c6) (h7 : f 7 = c7) (h8 : f 8 = c8) (h9 : f 9 = c9) :
 W.cell? ⟨b, 0, none⟩ = some c0 /\ W.cell? ⟨b, 1, none⟩ = some c1 /\ W.cell? ⟨b, 2, none⟩ = some c2 /\ W.cell? ⟨b, 3, none⟩ = some c3 /\ W.cell? ⟨b, 4, none⟩ = some c4 /\ W.cell? ⟨b, 5, none⟩ = some c5 /\ W.cell? ⟨b, 6, none⟩ = some c6 /\ W.cell? ⟨b, 7, none⟩ = some c7 /\ W.cell? ⟨b, 8, none⟩ = some c8 /\ W.cell? ⟨b, 9, none⟩ = some c9 := by
 subst h0 h1 h2 h3 h4 h5 h6 h7 h8 h9
 exact ⟨h.cell (by omega), h.cell (by omega), h.cell (by omega), h.cell (by omega), h.cell (by omega), h.cell (by omega), h.cell (by omega), h.cell (by omega), h.cell (by omega), h.cell (by omega)⟩
theorem zc9 {w w' : World} {A Z : Array Value} {t u : TypeId} {C n : Nat} (hB : Below C ((w.alloc (.cells A t)).alloc (.cells Z u)) w') (hC : w.heap.size + 1 < C) (hA : A.size = n) (hZ : Z.size = n) :
 w'.rowIs w.heap.size t n (fun i => A.getD i (.bool false)) /\ w'.rowIs (w.heap.size + 1) u n (fun i => Z.getD i (.bool false)) :=
 ⟨⟨A, (hB.block _ (by omega)).trans ((zbp (by simp)).trans (zaq rfl)), hA, fun i hi => by simp [Array.getD, show i < A.size by omega]⟩, ⟨Z, (hB.block _ hC).trans (zaq (by simp)), hZ, fun i hi => by simp [Array.getD, show i < Z.size by omega]⟩⟩
theorem za9 {W : World} {k : Nat} {c0 c1 c2 c3 c4 c5 c6 c7 c8 c9 : Value} {B T : Nat} {t : TypeId} {v : Value} {n m : Nat} {f : Nat -> Value} (h : zab B T t W v n m f) (hne : k < B \/ T <= k) :
 zab B T t ((((((((((W.setCell ⟨k, 0, none⟩ c0).setCell ⟨k, 1, none⟩ c1).setCell ⟨k, 2, none⟩ c2).setCell ⟨k, 3, none⟩ c3).setCell ⟨k, 4, none⟩ c4).setCell ⟨k, 5, none⟩ c5).setCell ⟨k, 6, none⟩ c6).setCell ⟨k, 7, none⟩ c7).setCell ⟨k, 8, none⟩ c8).setCell ⟨k, 9, none⟩ c9) v n m f :=
 h.block fun j h1 h2 => by
  repeat rw [Below.heap_setCell _ _ _ _ (by show j ≠ k; omega)]
theorem zbo {W w : World} {k C : Nat} {c0 c1 c2 c3 c4 c5 c6 c7 c8 c9 : Value} (h : Below C w W) (hk : C <= k) :
 Below C w ((((((((((W.setCell ⟨k, 0, none⟩ c0).setCell ⟨k, 1, none⟩ c1).setCell ⟨k, 2, none⟩ c2).setCell ⟨k, 3, none⟩ c3).setCell ⟨k, 4, none⟩ c4).setCell ⟨k, 5, none⟩ c5).setCell ⟨k, 6, none⟩ c6).setCell ⟨k, 7, none⟩ c7).setCell ⟨k, 8, none⟩ c8).setCell ⟨k, 9, none⟩ c9) :=
 (((((((((h.setCell (p := ⟨k, 0, none⟩) hk _).setCell (p := ⟨k, 1, none⟩) hk _).setCell (p := ⟨k, 2, none⟩) hk _).setCell (p := ⟨k, 3, none⟩) hk _).setCell (p := ⟨k, 4, none⟩) hk _).setCell (p := ⟨k, 5, none⟩) hk _).setCell (p := ⟨k, 6, none⟩) hk _).setCell (p := ⟨k, 7, none⟩) hk _).setCell (p := ⟨k, 8, none⟩) hk _).setCell (p := ⟨k, 9, none⟩) hk _
set_option maxHeartbeats 2000000 in
theorem zfq (aw : Option Addr) (cw : Nat) (ws : List Int) (sm toh top : Int) (cyc : Bool) (sn old cp sr : Int) (ar : Option Addr) (cr : Nat) (rs : List (Int × Int)) (y : Nat -> Int) (Tr : Nat) (w : World) (hs : Sl w (.slice aw ws.length cw) ws) (hn : ws.length <= 1048576) (hrt : SlF Tr w (.slice ar rs.length cr) rs.length (2 * rs.length) (fun i => .int .i64 (y i))) (hn2 : rs.length <= 1048576) :
 Calls Tryz.prog 77 #[.agg #[.slice aw ws.length cw, .int .i64 sm, .int .i64 toh, .int .i64 top, .bool cyc, .int .i64 sn, .int .i64 old, .int .i64 cp, .int .i64 sr, .slice ar rs.length cr]] w fun e w' => ∃ vw vr, e = .returned (.agg #[vw, .int .i64 sm, .int .i64 toh, .int .i64 top, .bool cyc, .int .i64 sn, .int .i64 old, .int .i64 cp, .int .i64 sr, vr]) /\ (∃ a, vw = .slice a ws.length ws.length) /\ zak w.heap.size w'.heap.size w' vw vr ws.length rs.length (za ws) y /\ Below w.heap.size w w' := by
 have hm1 := zmg (rs.length : Int) (by omega) (by omega)
 rw [Int.toNat_natCast] at hm1
 have HS : Hid (Sl w (.slice aw ws.length cw) ws) := hs
 have HR : Hid (SlF w.heap.size w (.slice ar rs.length cr) rs.length (2 * rs.length) (fun i => .int .i64 (y i))) := hrt.here
 clear hs hrt
 go_enter Tryz.func77, Tryz.ntmps77
 go_wp2_with (refine zik rfl (.tmp 8) (.tmp 10) 27 27 rfl 57 Tryz.underlying27 (by kernel_rfl) (w.heap.size + 1 + 1) rs.length rs.length ar cr rfl rfl (madeCells #[.int .i64 0, .int .i64 0] (rs.length * 2)) 57 ?hg (size_madeCells _ _) (zdh rs.length y) (zhl _ _) ?hpos (zjp _ _) (w.heap.size + 1 + 1) ((w.alloc (.cells #[.slice aw ws.length cw, .int .i64 sm, .int .i64 toh, .int .i64 top, .bool cyc, .int .i64 sn, .int .i64 old, .int .i64 cp, .int .i64 sr, .slice ar rs.length cr] 29)).alloc (.cells #[.slice none 0 0, .int .i64 0, .int .i64 0, .int .i64 0, .bool false, .int .i64 0, .int .i64 0, .int .i64 0, .int .i64 0, .slice none 0 0] 29)) ?hb (Nat.le_refl _) ?_)
 case hg => exact zaq (by simp)
 case hb => exact (Below.refl _ _).alloc (by simp) _
 case hpos =>
  intro h0
  obtain ⟨b, off, cap', hv, _, lb, hc⟩ := HR.out.parts (k := 0) (by omega)
  simp only [Value.slice.injEq] at hv
  obtain ⟨rfl, _, rfl⟩ := hv
  refine ⟨_, rfl, fun j u hj => ?_⟩
  obtain ⟨hj1, rfl⟩ := zk5 hj
  rw [Addr.add_lit]
  exact zcg (by simp; omega) (zcg (by simp; omega) (zcg lb (hc j (by omega))))
 intro w2 HG hB2
 have hrow : w2.rowIs (w.heap.size + 1 + 1) 57 (rs.length * 2) (fun i => .int .i64 (y i)) := zlm HG.out
 obtain ⟨hbox, hres⟩ := zc9 (n := 10) hB2 (Nat.lt_succ_self _) rfl rfl
 obtain ⟨c0, c1, c2, c3, c4, c5, c6, c7, c8, c9⟩ := zce hbox rfl rfl rfl rfl rfl rfl rfl rfl rfl rfl
 simp at c0 c1 c2 c3 c4 c5 c6 c7 c8 c9
 have f2 := hbox.frozen
 have B2 : Below w.heap.size w w2 := (((Below.refl _ _).alloc (Nat.le_refl _) _).alloc (by simp) _).trans (hB2.mono (by omega))
 have HRW : Hid (w2.rowIs (w.heap.size + 1 + 1) 57 (rs.length * 2) (fun i => .int .i64 (y i))) := hrow
 have HBX : Hid (w2.rowIs w.heap.size 29 10 (fun i => (#[.slice aw ws.length cw, .int .i64 sm, .int .i64 toh, .int .i64 top, .bool cyc, .int .i64 sn, .int .i64 old, .int .i64 cp, .int .i64 sr, .slice ar rs.length cr] : Array Value).getD i (.bool false))) := hbox
 have HBZ : Hid (w2.rowIs (w.heap.size + 1) 29 10 (fun i => (#[.slice none 0 0, .int .i64 0, .int .i64 0, .int .i64 0, .bool false, .int .i64 0, .int .i64 0, .int .i64 0, .int .i64 0, .slice none 0 0] : Array Value).getD i (.bool false))) := hres
 have HB2 : Hid (Below w.heap.size w w2) := B2
 clear HG hB2 hm1 hrow hbox hres B2
 go_wp2_with fail
 obtain ⟨W3, hW3⟩ : ∃ W, W = w2.setCell ⟨w.heap.size, 9, none⟩ (.slice (some ⟨w.heap.size + 1 + 1, 0, none⟩) rs.length rs.length) := ⟨_, rfl⟩
 have R3 := HBX.out.set 9 (.slice (some ⟨w.heap.size + 1 + 1, 0, none⟩) rs.length rs.length)
 have Z3 := HBZ.out.setOther (a := ⟨w.heap.size, 9, none⟩) (by show w.heap.size + 1 ≠ w.heap.size; omega) (.slice (some ⟨w.heap.size + 1 + 1, 0, none⟩) rs.length rs.length)
 have V3 := HRW.out.setOther (a := ⟨w.heap.size, 9, none⟩) (by show w.heap.size + 1 + 1 ≠ w.heap.size; omega) (.slice (some ⟨w.heap.size + 1 + 1, 0, none⟩) rs.length rs.length)
 have B3 := HB2.out.setCell (p := ⟨w.heap.size, 9, none⟩) (Nat.le_refl _) (.slice (some ⟨w.heap.size + 1 + 1, 0, none⟩) rs.length rs.length)
 rw [<- hW3] at R3 Z3 V3 B3 ⊢
 clear hW3 HBX HBZ HRW HB2 c0 c1 c2 c3 c4 c5 c6 c7 c8 c9 f2
 refine (zkq _ ws _ (HS.out.below B3) hn).mono ?_
 rintro e w4 ⟨v4, rfl, ⟨a4, rfl⟩, o4, b4⟩
 have R4 := R3.of_block (b4.block _ R3.lt)
 have Z4 := Z3.of_block (b4.block _ Z3.lt)
 have V4 := V3.of_block (b4.block _ V3.lt)
 have B4 := zc B3 b4
 have l3 := V3.lt
 have l4 := b4.size
 clear R3 Z3 V3 B3 b4
 obtain ⟨c0, c1, c2, c3, c4, c5, c6, c7, c8, c9⟩ := zce R4 rfl rfl rfl rfl rfl rfl rfl rfl rfl rfl
 simp at c0 c1 c2 c3 c4 c5 c6 c7 c8 c9
 obtain ⟨d0, d1, d2, d3, d4, d5, d6, d7, d8, d9⟩ := zce Z4 rfl rfl rfl rfl rfl rfl rfl rfl rfl rfl
 simp at d0 d1 d2 d3 d4 d5 d6 d7 d8 d9
 have f4 := R4.frozen
 have e4 := Z4.frozen
 have HOW : Hid (zab W3.heap.size w4.heap.size 77 w4 (.slice a4 ws.length ws.length) ws.length ws.length (fun i => .int .u64 (za ws i))) := zqb o4
 have HV4 : Hid (w4.rowIs (w.heap.size + 1 + 1) 57 (rs.length * 2) (fun i => .int .i64 (y i))) := V4
 have HB4 : Hid (Below w.heap.size w w4) := B4
 have H3 : Hid (w.heap.size + 1 + 1 < W3.heap.size) := l3
 have H4 : Hid (W3.heap.size <= w4.heap.size) := l4
 clear R4 Z4 V4 B4 o4 l3 l4
 go_wp2
 have p0 : (w4.cell? ⟨w.heap.size + 1, 0, none⟩).isSome = true := by rw [d0]; rfl
 have p1 : (w4.cell? ⟨w.heap.size + 1, 1, none⟩).isSome = true := by rw [d1]; rfl
 have p2 : (w4.cell? ⟨w.heap.size + 1, 2, none⟩).isSome = true := by rw [d2]; rfl
 have p3 : (w4.cell? ⟨w.heap.size + 1, 3, none⟩).isSome = true := by rw [d3]; rfl
 have p4 : (w4.cell? ⟨w.heap.size + 1, 4, none⟩).isSome = true := by rw [d4]; rfl
 have p5 : (w4.cell? ⟨w.heap.size + 1, 5, none⟩).isSome = true := by rw [d5]; rfl
 have p6 : (w4.cell? ⟨w.heap.size + 1, 6, none⟩).isSome = true := by rw [d6]; rfl
 have p7 : (w4.cell? ⟨w.heap.size + 1, 7, none⟩).isSome = true := by rw [d7]; rfl
 have p8 : (w4.cell? ⟨w.heap.size + 1, 8, none⟩).isSome = true := by rw [d8]; rfl
 have p9 : (w4.cell? ⟨w.heap.size + 1, 9, none⟩).isSome = true := by rw [d9]; rfl
 refine bodyPost_ret (v := .agg #[.slice a4 ws.length ws.length, .int .i64 sm, .int .i64 toh, .int .i64 top, .bool cyc, .int .i64 sn, .int .i64 old, .int .i64 cp, .int .i64 sr, .slice (some ⟨w.heap.size + 1 + 1, 0, none⟩) rs.length rs.length]) (by simp [results, Tryz.results77, go_sem, p0, p1, p2, p3, p4, p5, p6, p7, p8, p9]) rfl ⟨_, _, rfl, ⟨_, rfl⟩, ?_, ?_⟩
 · have h3 := H3.out
   have h4 := H4.out
   refine ⟨W3.heap.size, w4.heap.size, w.heap.size + 1 + 1, w.heap.size + 1 + 1 + 1, by omega, by simp, by omega, by simp; omega, by omega, ?_, ?_⟩
   · refine za9 ?_ (by omega)
     exact HOW.out.block fun k hk _ => Below.heap_setCell _ _ _ _ (by show k ≠ w.heap.size; omega)
   · refine za9 ?_ (by omega)
     exact ⟨_, _, rfl, .inr ⟨w.heap.size + 1 + 1, rs.length * 2, _, rfl, Nat.le_refl _, by omega, by omega, HV4.out.of_block (Below.heap_setCell _ _ _ _ (by show w.heap.size + 1 + 1 ≠ w.heap.size; omega)), fun _ _ => rfl⟩⟩
 · exact zbo (HB4.out.setCell (p := ⟨w.heap.size, 0, none⟩) (Nat.le_refl _) _) (Nat.le_succ _)
set_option maxHeartbeats 2000000 in
theorem zec (aw : Option Addr) (cw : Nat) (ws : List Int) (sm toh top : Int) (cyc : Bool) (sn old cp sr : Int) (ar : Option Addr) (cr : Nat) (rs : List (Int × Int)) (y : Nat -> Int) (Tr : Nat) (w : World) (hs : Sl w (.slice aw ws.length cw) ws) (hn : ws.length <= 1048576) (hrt : SlF Tr w (.slice ar rs.length cr) rs.length (2 * rs.length) (fun i => .int .i64 (y i))) (hn2 : rs.length <= 1048576) :
 Calls Tryz.prog 37 #[.agg #[.slice aw ws.length cw, .int .i64 sm, .int .i64 toh, .int .i64 top, .bool cyc, .int .i64 sn, .int .i64 old, .int .i64 cp, .int .i64 sr, .slice ar rs.length cr]] w fun e w' => ∃ vw vr, e = .returned (.agg #[vw, .int .i64 sm, .int .i64 toh, .int .i64 top, .bool cyc, .int .i64 sn, .int .i64 old, .int .i64 cp, .int .i64 sr, vr]) /\ zak w.heap.size w'.heap.size w' vw vr ws.length rs.length (za ws) y /\ Below w.heap.size w w' := by
 obtain ⟨i0, hi, hz0, hz1, hz2⟩ := info_parts zvu
 have HS : Hid (Sl w (.slice aw ws.length cw) ws) := hs
 have HR : Hid (SlF w.heap.size w (.slice ar rs.length cr) rs.length (2 * rs.length) (fun i => .int .i64 (y i))) := hrt.here
 clear hs hrt
 go_enter Tryz.func37, Tryz.ntmps37
 go_wp2_with fail
 refine (zom _ ws _ (HS.out.below (zk (Below.refl _ _))) hn).mono ?_
 rintro e w1 ⟨v1, rfl, o1, b1⟩
 obtain ⟨a1, c1, rfl⟩ := o1.sl.head
 obtain ⟨hbox, hres⟩ := zc9 (n := 10) b1 (by simp) rfl rfl
 obtain ⟨c0, c1', c2, c3, c4, c5, c6, c7, c8, c9⟩ := zce hbox rfl rfl rfl rfl rfl rfl rfl rfl rfl rfl
 simp at c0 c1' c2 c3 c4 c5 c6 c7 c8 c9
 have f1 := hbox.frozen
 have B1 := zk b1
 have l1 := zd0 b1
 have l0 : w.heap.size < w1.heap.size := by omega
 have HOW : Hid (zab (w.heap.size + 1 + 1) w1.heap.size 77 w1 (.slice a1 ws.length c1) ws.length ws.length (fun i => .int .u64 (za ws i))) := by show zab (w.heap.size + 1 + 1) w1.heap.size 77 w1 (.slice a1 ws.length c1) ws.length ws.length (fun i => .int .u64 (za ws i)); simpa using zqb o1
 have HBX : Hid (w1.rowIs w.heap.size 29 10 (fun i => (#[.slice aw ws.length cw, .int .i64 sm, .int .i64 toh, .int .i64 top, .bool cyc, .int .i64 sn, .int .i64 old, .int .i64 cp, .int .i64 sr, .slice ar rs.length cr] : Array Value).getD i (.bool false))) := hbox
 have HBZ : Hid (w1.rowIs (w.heap.size + 1) 29 10 (fun i => (#[.slice none 0 0, .int .i64 0, .int .i64 0, .int .i64 0, .bool false, .int .i64 0, .int .i64 0, .int .i64 0, .int .i64 0, .slice none 0 0] : Array Value).getD i (.bool false))) := hres
 have HB1 : Hid (Below w.heap.size w w1) := B1
 clear b1 o1 hbox hres B1
 have R1 := HBX.out.set 0 (.slice a1 ws.length c1)
 have Z1 := HBZ.out.setOther (a := ⟨w.heap.size, 0, none⟩) (by show w.heap.size + 1 ≠ w.heap.size; omega) (.slice a1 ws.length c1)
 have B1' := HB1.out.setCell (p := ⟨w.heap.size, 0, none⟩) (Nat.le_refl _) (.slice a1 ws.length c1)
 have O1 := HOW.out.block (w' := w1.setCell ⟨w.heap.size, 0, none⟩ (.slice a1 ws.length c1)) fun k hk _ => Below.heap_setCell _ _ _ _ (by show k ≠ w.heap.size; omega)
 have HR1 : Hid (∀ o, ((w1.setCell ⟨w.heap.size, 0, none⟩ (.slice a1 ws.length c1)).alloc o).rowIs w.heap.size 29 10 (fun i => if i = 0 then .slice a1 ws.length c1 else (#[.slice aw ws.length cw, .int .i64 sm, .int .i64 toh, .int .i64 top, .bool cyc, .int .i64 sn, .int .i64 old, .int .i64 cp, .int .i64 sr, .slice ar rs.length cr] : Array Value).getD i (.bool false))) := fun o => R1.alloc o
 have HZ1 : Hid (∀ o, ((w1.setCell ⟨w.heap.size, 0, none⟩ (.slice a1 ws.length c1)).alloc o).rowIs (w.heap.size + 1) 29 10 (fun i => (#[.slice none 0 0, .int .i64 0, .int .i64 0, .int .i64 0, .bool false, .int .i64 0, .int .i64 0, .int .i64 0, .int .i64 0, .slice none 0 0] : Array Value).getD i (.bool false))) := fun o => Z1.alloc o
 have HO1 : Hid (zab (w.heap.size + 1 + 1) w1.heap.size 77 (w1.setCell ⟨w.heap.size, 0, none⟩ (.slice a1 ws.length c1)) (.slice a1 ws.length c1) ws.length ws.length (fun i => .int .u64 (za ws i))) := O1
 have HBB : Hid (Below w.heap.size w (w1.setCell ⟨w.heap.size, 0, none⟩ (.slice a1 ws.length c1))) := B1'
 obtain ⟨d0, d1, d2, d3, d4, d5, d6, d7, d8, d9⟩ := zce HBZ.out rfl rfl rfl rfl rfl rfl rfl rfl rfl rfl
 simp at d0 d1 d2 d3 d4 d5 d6 d7 d8 d9
 have e1 := HBZ.out.frozen
 clear R1 Z1 B1' O1 HBX HBZ HOW HB1
 cases ar with
 | none =>
   have hr0 : rs = [] := by
    obtain ⟨a, c, he, hx⟩ := HR.out
    simp only [Value.slice.injEq] at he
    obtain ⟨rfl, _⟩ := he
    rcases hx with h | ⟨b, off, h, _⟩
    · exact List.eq_nil_of_length_eq_zero (by omega)
    · simp at h
   subst hr0
   clear HR HR1 HZ1
   go_wp2
   have p0 : (w1.cell? ⟨w.heap.size + 1, 0, none⟩).isSome = true := by rw [d0]; rfl
   have p1 : (w1.cell? ⟨w.heap.size + 1, 1, none⟩).isSome = true := by rw [d1]; rfl
   have p2 : (w1.cell? ⟨w.heap.size + 1, 2, none⟩).isSome = true := by rw [d2]; rfl
   have p3 : (w1.cell? ⟨w.heap.size + 1, 3, none⟩).isSome = true := by rw [d3]; rfl
   have p4 : (w1.cell? ⟨w.heap.size + 1, 4, none⟩).isSome = true := by rw [d4]; rfl
   have p5 : (w1.cell? ⟨w.heap.size + 1, 5, none⟩).isSome = true := by rw [d5]; rfl
   have p6 : (w1.cell? ⟨w.heap.size + 1, 6, none⟩).isSome = true := by rw [d6]; rfl
   have p7 : (w1.cell? ⟨w.heap.size + 1, 7, none⟩).isSome = true := by rw [d7]; rfl
   have p8 : (w1.cell? ⟨w.heap.size + 1, 8, none⟩).isSome = true := by rw [d8]; rfl
   have p9 : (w1.cell? ⟨w.heap.size + 1, 9, none⟩).isSome = true := by rw [d9]; rfl
   refine bodyPost_ret (v := .agg #[.slice a1 ws.length c1, .int .i64 sm, .int .i64 toh, .int .i64 top, .bool cyc, .int .i64 sn, .int .i64 old, .int .i64 cp, .int .i64 sr, .slice (some ⟨w1.heap.size, 0, none⟩) 0 0]) (by simp [results, Tryz.results37, go_sem, p0, p1, p2, p3, p4, p5, p6, p7, p8, p9, l0, l1, World.cell?_alloc_lt]) rfl ⟨_, _, rfl, ?_, ?_⟩
   · refine ⟨w.heap.size + 1 + 1, w1.heap.size, w1.heap.size, w1.heap.size, by omega, by simp, by omega, by simp, by omega, ?_, ⟨_, _, rfl, .inl rfl⟩⟩
     refine zab.block (za9 (k := w.heap.size + 1) (HO1.out.block (w' := (w1.setCell ⟨w.heap.size, 0, none⟩ (.slice a1 ws.length c1)).setCell ⟨w.heap.size, 9, none⟩ (.slice (some ⟨w1.heap.size, 0, none⟩) 0 0)) fun k hk hk' => Below.heap_setCell _ _ _ _ (by show k ≠ w.heap.size; omega)) (by omega)) fun k hk hk' => zbp (by simpa using hk')
   · refine Below.alloc (zbo (HBB.out.setCell (p := ⟨w.heap.size, 9, none⟩) (Nat.le_refl _) _) (Nat.le_succ _)) (by simp; omega) _
 | some ad =>
   clear d0 d1 d2 d3 d4 d5 d6 d7 d8 d9 e1
   go_wp2_with (at_builtin; refine wpList_append_own _ rfl _ _ 27 rfl w1.heap.size 57 i0 (.agg #[.int .i64 0, .int .i64 0]) 2 16 Tryz.underlying27 hi hz0 hz1 hz2 rfl (by decide) (.slice (some ⟨w1.heap.size, 0, none⟩) 0 0) 0 [] rfl ?hown ad rs.length cr (zdh rs.length y) rfl ?hl ?hnews (zjp _ _) ?h63 ?hby ?hbase ?_)
   case hown => exact ⟨rfl, .inr ⟨w1.heap.size, 0, #[], rfl, Nat.le_refl _, zaq (by simp), Nat.le_refl _, by simp [maxLen], rfl, rfl⟩⟩
   case hl => rw [zhl]
   case hnews =>
    intro j u hj
    obtain ⟨hj1, rfl⟩ := zk5 hj
    have hRb := HR.out.below HBB.out (Nat.le_refl _)
    obtain ⟨b, off, cap', hv, _, lb, hc⟩ := hRb.parts (k := 0) (by omega)
    simp only [Value.slice.injEq, Option.some.injEq] at hv
    obtain ⟨rfl, _, rfl⟩ := hv
    rw [Addr.add_lit]
    exact zcg lb (hc j (by omega))
   case h63 => unfold maxLen; omega
   case hby => omega
   case hbase => simp
   intro v2 w2 hown' hgrow _
   have V2 := zl9 hown'
   obtain ⟨a2, cp2, rfl⟩ := V2.sl.head
   have hbk : ∀ k, k < w1.heap.size -> w2.heap[k]? = (w1.setCell ⟨w.heap.size, 0, none⟩ (.slice a1 ws.length c1)).heap[k]? := fun k hk => by
    rw [hgrow.block k (by simp; omega) (by simp [Value.ownBlock]; omega)]
    exact zbp (by simpa using hk)
   have R2 := (HR1.out (.cells #[] 57)).of_block (w' := w2) (by rw [hbk _ (by omega)]; exact (zbp (by simp; omega)).symm)
   have Z2 := (HZ1.out (.cells #[] 57)).of_block (w' := w2) (by rw [hbk _ (by omega)]; exact (zbp (by simp; omega)).symm)
   have O2 := HO1.out.block (w' := w2) fun k _ hk => hbk k hk
   have l2 : w1.heap.size <= w2.heap.size := by have := hgrow.size; simp at this; omega
   have B2 : Below w.heap.size w w2 := (HBB.out.alloc (by simpa using HBB.out.size) _).grown hgrow (by simp; omega) (fun k hk => by simp [Value.ownBlock] at hk; omega)
   clear hown' hgrow hbk HR1 HZ1 HO1 HBB c0 c1' c2 c3 c4 c5 c6 c7 c8 c9 f1
   obtain ⟨c0, c1', c2, c3, c4, c5, c6, c7, c8, c9⟩ := zce R2 rfl rfl rfl rfl rfl rfl rfl rfl rfl rfl
   simp at c0 c1' c2 c3 c4 c5 c6 c7 c8 c9
   obtain ⟨d0, d1, d2, d3, d4, d5, d6, d7, d8, d9⟩ := zce Z2 rfl rfl rfl rfl rfl rfl rfl rfl rfl rfl
   simp at d0 d1 d2 d3 d4 d5 d6 d7 d8 d9
   have f2 := R2.frozen
   have e2 := Z2.frozen
   have HO2 : Hid (zab (w.heap.size + 1 + 1) w1.heap.size 77 w2 (.slice a1 ws.length c1) ws.length ws.length (fun i => .int .u64 (za ws i))) := O2
   have HV2 : Hid (zab w1.heap.size w2.heap.size 57 w2 (.slice a2 rs.length cp2) rs.length (2 * rs.length) (fun i => .int .i64 (y i))) := V2
   have HB2 : Hid (Below w.heap.size w w2) := B2
   have H1 : Hid (w.heap.size + 1 < w1.heap.size) := l1
   have H2 : Hid (w1.heap.size <= w2.heap.size) := l2
   clear R2 Z2 O2 V2 B2 l1 l2
   go_wp2
   have p0 : (w2.cell? ⟨w.heap.size + 1, 0, none⟩).isSome = true := by rw [d0]; rfl
   have p1 : (w2.cell? ⟨w.heap.size + 1, 1, none⟩).isSome = true := by rw [d1]; rfl
   have p2 : (w2.cell? ⟨w.heap.size + 1, 2, none⟩).isSome = true := by rw [d2]; rfl
   have p3 : (w2.cell? ⟨w.heap.size + 1, 3, none⟩).isSome = true := by rw [d3]; rfl
   have p4 : (w2.cell? ⟨w.heap.size + 1, 4, none⟩).isSome = true := by rw [d4]; rfl
   have p5 : (w2.cell? ⟨w.heap.size + 1, 5, none⟩).isSome = true := by rw [d5]; rfl
   have p6 : (w2.cell? ⟨w.heap.size + 1, 6, none⟩).isSome = true := by rw [d6]; rfl
   have p7 : (w2.cell? ⟨w.heap.size + 1, 7, none⟩).isSome = true := by rw [d7]; rfl
   have p8 : (w2.cell? ⟨w.heap.size + 1, 8, none⟩).isSome = true := by rw [d8]; rfl
   have p9 : (w2.cell? ⟨w.heap.size + 1, 9, none⟩).isSome = true := by rw [d9]; rfl
   refine bodyPost_ret (v := .agg #[.slice a1 ws.length c1, .int .i64 sm, .int .i64 toh, .int .i64 top, .bool cyc, .int .i64 sn, .int .i64 old, .int .i64 cp, .int .i64 sr, .slice a2 rs.length cp2]) (by simp [results, Tryz.results37, go_sem, p0, p1, p2, p3, p4, p5, p6, p7, p8, p9]) rfl ⟨_, _, rfl, ?_, ?_⟩
   · have h1 := H1.out
     have h2 := H2.out
     refine ⟨w.heap.size + 1 + 1, w1.heap.size, w1.heap.size, w2.heap.size, by omega, by simp; omega, by omega, by simp, by omega, ?_, ?_⟩
     · refine za9 ?_ (by omega)
       exact HO2.out.block fun k hk _ => Below.heap_setCell _ _ _ _ (by show k ≠ w.heap.size; omega)
     · refine za9 ?_ (by omega)
       exact HV2.out.block fun k hk _ => Below.heap_setCell _ _ _ _ (by show k ≠ w.heap.size; omega)
   · exact zbo (HB2.out.setCell (p := ⟨w.heap.size, 9, none⟩) (Nat.le_refl _) _) (Nat.le_succ _)
theorem zay {B T : Nat} {t : TypeId} {w : World} {v : Value} {n m : Nat} {f : Nat -> Value} (h : zab B T t w v n m f) {k i : Nat} (hne : k < B \/ T <= k) (u : Value) : zab B T t (w.setCell ⟨k, i, none⟩ u) v n m f :=
 h.block fun j h1 h2 => Below.heap_setCell _ _ _ _ (by show j ≠ k; omega)
set_option maxHeartbeats 2000000 in
theorem zpm (aw : Option Addr) (cw : Nat) (ws : List Int) (sm toh top : Int) (cyc : Bool) (sn old cp sr : Int) (ar : Option Addr) (cr : Nat) (rs : List (Int × Int)) (y : Nat -> Int) (Tr : Nat) (w : World) (hs : Sl w (.slice aw ws.length cw) ws) (hn : ws.length <= 1048576) (hrt : SlF Tr w (.slice ar rs.length cr) rs.length (2 * rs.length) (fun i => .int .i64 (y i))) (hn2 : rs.length <= 1048576) :
 Calls Tryz.prog 13 #[.agg #[.slice aw ws.length cw, .int .i64 sm, .int .i64 toh, .int .i64 top, .bool cyc, .int .i64 sn, .int .i64 old, .int .i64 cp, .int .i64 sr, .slice ar rs.length cr]] w fun e w' => ∃ b1 b2 : Nat, e = .returned (.agg #[.slice (some ⟨b1, 0, none⟩) ws.length ws.length, .int .i64 sm, .int .i64 toh, .int .i64 top, .bool cyc, .int .i64 sn, .int .i64 old, .int .i64 cp, .int .i64 sr, .slice (some ⟨b2, 0, none⟩) rs.length rs.length]) /\ zak w.heap.size w'.heap.size w' (.slice (some ⟨b1, 0, none⟩) ws.length ws.length) (.slice (some ⟨b2, 0, none⟩) rs.length rs.length) ws.length rs.length (za ws) y /\ Below w.heap.size w w' := by
 have HS : Hid (Sl w (.slice aw ws.length cw) ws) := hs
 have HR : Hid (SlF w.heap.size w (.slice ar rs.length cr) rs.length (2 * rs.length) (fun i => .int .i64 (y i))) := hrt.here
 clear hs hrt
 go_enter Tryz.func13, Tryz.ntmps13
 have B3 : Below w.heap.size w (((w.alloc (.cells #[.slice aw ws.length cw, .int .i64 sm, .int .i64 toh, .int .i64 top, .bool cyc, .int .i64 sn, .int .i64 old, .int .i64 cp, .int .i64 sr, .slice ar rs.length cr] 25)).alloc (.cells #[.slice none 0 0, .int .i64 0, .int .i64 0, .int .i64 0, .bool false, .int .i64 0, .int .i64 0, .int .i64 0, .int .i64 0, .slice none 0 0] 29)).alloc (.cells #[.slice none 0 0, .int .i64 0, .int .i64 0, .int .i64 0, .bool false, .int .i64 0, .int .i64 0, .int .i64 0, .int .i64 0, .slice none 0 0] 29)) := zbc (Below.refl _ _)
 go_wp2_with (first | (go_at_call 45; refine (zr1 _ _ ws _ (HS.out.below B3) hn).mono ?_; rintro e w1 ⟨rfl, o1, b1⟩; obtain ⟨k1, k2, k3⟩ := zbb b1; have f3 : ∀ i, w1.frozen? ⟨w.heap.size + 1 + 1, i, none⟩ = false := fun i => (by rw [(zaf b1).2 _ _ (by simp)]; simp [go_sem]); have f2 : ∀ i, w1.frozen? ⟨w.heap.size + 1, i, none⟩ = false := fun i => (by rw [(zaf b1).2 _ _ (by simp)]; simp [go_sem])) | fail)
 have r3 : w1.rowIs (w.heap.size + 1 + 1) 29 10 (fun i => (#[.slice none 0 0, .int .i64 0, .int .i64 0, .int .i64 0, .bool false, .int .i64 0, .int .i64 0, .int .i64 0, .int .i64 0, .slice none 0 0] : Array Value).getD i (.bool false)) := ⟨(#[.slice none 0 0, .int .i64 0, .int .i64 0, .int .i64 0, .bool false, .int .i64 0, .int .i64 0, .int .i64 0, .int .i64 0, .slice none 0 0] : Array Value), (b1.block _ (by simp)).trans (zaq (by simp)), rfl, fun i hi => by simp [Array.getD, hi]⟩
 have r2 : w1.rowIs (w.heap.size + 1) 29 10 (fun i => (#[.slice none 0 0, .int .i64 0, .int .i64 0, .int .i64 0, .bool false, .int .i64 0, .int .i64 0, .int .i64 0, .int .i64 0, .slice none 0 0] : Array Value).getD i (.bool false)) := ⟨(#[.slice none 0 0, .int .i64 0, .int .i64 0, .int .i64 0, .bool false, .int .i64 0, .int .i64 0, .int .i64 0, .int .i64 0, .slice none 0 0] : Array Value), (b1.block _ (by simp)).trans ((zbp (by simp)).trans (zaq (by simp))), rfl, fun i hi => by simp [Array.getD, hi]⟩
 have hz2 : w.heap.size <= w.heap.size + 1 + 1 := by omega
 obtain ⟨W9, hW9⟩ : ∃ W, W = (((((((((w1.setCell ⟨w.heap.size + 1 + 1, 0, none⟩ (.slice (some ⟨w.heap.size + 1 + 1 + 1, 0, none⟩) ws.length ws.length)).setCell ⟨w.heap.size + 1 + 1, 1, none⟩ (.int .i64 sm)).setCell ⟨w.heap.size + 1 + 1, 2, none⟩ (.int .i64 toh)).setCell ⟨w.heap.size + 1 + 1, 3, none⟩ (.int .i64 top)).setCell ⟨w.heap.size + 1 + 1, 4, none⟩ (.bool cyc)).setCell ⟨w.heap.size + 1 + 1, 5, none⟩ (.int .i64 sn)).setCell ⟨w.heap.size + 1 + 1, 6, none⟩ (.int .i64 old)).setCell ⟨w.heap.size + 1 + 1, 7, none⟩ (.int .i64 cp)).setCell ⟨w.heap.size + 1 + 1, 8, none⟩ (.int .i64 sr)) := ⟨_, rfl⟩
 have R3 := (((((((((r3.set 0 (.slice (some ⟨w.heap.size + 1 + 1 + 1, 0, none⟩) ws.length ws.length)).set 1 (.int .i64 sm)).set 2 (.int .i64 toh)).set 3 (.int .i64 top)).set 4 (.bool cyc)).set 5 (.int .i64 sn)).set 6 (.int .i64 old)).set 7 (.int .i64 cp)).set 8 (.int .i64 sr))
 have R2 := (((((((((r2.setOther (a := ⟨w.heap.size + 1 + 1, 0, none⟩) (by show w.heap.size + 1 ≠ w.heap.size + 1 + 1; omega) (.slice (some ⟨w.heap.size + 1 + 1 + 1, 0, none⟩) ws.length ws.length)).setOther (a := ⟨w.heap.size + 1 + 1, 1, none⟩) (by show w.heap.size + 1 ≠ w.heap.size + 1 + 1; omega) (.int .i64 sm)).setOther (a := ⟨w.heap.size + 1 + 1, 2, none⟩) (by show w.heap.size + 1 ≠ w.heap.size + 1 + 1; omega) (.int .i64 toh)).setOther (a := ⟨w.heap.size + 1 + 1, 3, none⟩) (by show w.heap.size + 1 ≠ w.heap.size + 1 + 1; omega) (.int .i64 top)).setOther (a := ⟨w.heap.size + 1 + 1, 4, none⟩) (by show w.heap.size + 1 ≠ w.heap.size + 1 + 1; omega) (.bool cyc)).setOther (a := ⟨w.heap.size + 1 + 1, 5, none⟩) (by show w.heap.size + 1 ≠ w.heap.size + 1 + 1; omega) (.int .i64 sn)).setOther (a := ⟨w.heap.size + 1 + 1, 6, none⟩) (by show w.heap.size + 1 ≠ w.heap.size + 1 + 1; omega) (.int .i64 old)).setOther (a := ⟨w.heap.size + 1 + 1, 7, none⟩) (by show w.heap.size + 1 ≠ w.heap.size + 1 + 1; omega) (.int .i64 cp)).setOther (a := ⟨w.heap.size + 1 + 1, 8, none⟩) (by show w.heap.size + 1 ≠ w.heap.size + 1 + 1; omega) (.int .i64 sr))
 have B9 := ((((((((((zbc b1).setCell (p := ⟨w.heap.size + 1 + 1, 0, none⟩) hz2 (.slice (some ⟨w.heap.size + 1 + 1 + 1, 0, none⟩) ws.length ws.length)).setCell (p := ⟨w.heap.size + 1 + 1, 1, none⟩) hz2 (.int .i64 sm)).setCell (p := ⟨w.heap.size + 1 + 1, 2, none⟩) hz2 (.int .i64 toh)).setCell (p := ⟨w.heap.size + 1 + 1, 3, none⟩) hz2 (.int .i64 top)).setCell (p := ⟨w.heap.size + 1 + 1, 4, none⟩) hz2 (.bool cyc)).setCell (p := ⟨w.heap.size + 1 + 1, 5, none⟩) hz2 (.int .i64 sn)).setCell (p := ⟨w.heap.size + 1 + 1, 6, none⟩) hz2 (.int .i64 old)).setCell (p := ⟨w.heap.size + 1 + 1, 7, none⟩) hz2 (.int .i64 cp)).setCell (p := ⟨w.heap.size + 1 + 1, 8, none⟩) hz2 (.int .i64 sr))
 have OW := o1.block (w' := W9) (fun k hk _ => by
  have hk' : w.heap.size + 1 + 1 < k := by simp at hk; omega
  rw [hW9]
  repeat rw [Below.heap_setCell _ _ _ _ (by show k ≠ w.heap.size + 1 + 1; omega)])
 rw [<- hW9] at R3 R2 B9 ⊢
 clear hW9 o1 k1 k2 k3 f3 f2 r3 r2 b1
 refine (zt2 _ _ _ y _ _ (HR.out.below B9 (Nat.le_refl _)) hn2).mono ?_
 rintro e w2 ⟨rfl, rr, b2⟩
 have Q3 := R3.of_block (b2.block _ R3.lt)
 have Q2 := R2.of_block (b2.block _ R2.lt)
 have OW2 := (zqb OW).below b2 (Nat.le_refl _)
 have rl := rr.lt
 have B9s := b2.size
 have B2 := zc B9 b2
 have lW := R3.lt
 clear R3 R2 B9 OW b2
 have c0 : w2.cell? ⟨w.heap.size + 1 + 1, 0, none⟩ = some (.slice (some ⟨w.heap.size + 1 + 1 + 1, 0, none⟩) ws.length ws.length) := by simpa using Q3.cell (i := 0) (by omega)
 have d0 : w2.cell? ⟨w.heap.size + 1, 0, none⟩ = some (.slice none 0 0) := by simpa using Q2.cell (i := 0) (by omega)
 have c1 : w2.cell? ⟨w.heap.size + 1 + 1, 1, none⟩ = some (.int .i64 sm) := by simpa using Q3.cell (i := 1) (by omega)
 have d1 : w2.cell? ⟨w.heap.size + 1, 1, none⟩ = some (.int .i64 0) := by simpa using Q2.cell (i := 1) (by omega)
 have c2 : w2.cell? ⟨w.heap.size + 1 + 1, 2, none⟩ = some (.int .i64 toh) := by simpa using Q3.cell (i := 2) (by omega)
 have d2 : w2.cell? ⟨w.heap.size + 1, 2, none⟩ = some (.int .i64 0) := by simpa using Q2.cell (i := 2) (by omega)
 have c3 : w2.cell? ⟨w.heap.size + 1 + 1, 3, none⟩ = some (.int .i64 top) := by simpa using Q3.cell (i := 3) (by omega)
 have d3 : w2.cell? ⟨w.heap.size + 1, 3, none⟩ = some (.int .i64 0) := by simpa using Q2.cell (i := 3) (by omega)
 have c4 : w2.cell? ⟨w.heap.size + 1 + 1, 4, none⟩ = some (.bool cyc) := by simpa using Q3.cell (i := 4) (by omega)
 have d4 : w2.cell? ⟨w.heap.size + 1, 4, none⟩ = some (.bool false) := by simpa using Q2.cell (i := 4) (by omega)
 have c5 : w2.cell? ⟨w.heap.size + 1 + 1, 5, none⟩ = some (.int .i64 sn) := by simpa using Q3.cell (i := 5) (by omega)
 have d5 : w2.cell? ⟨w.heap.size + 1, 5, none⟩ = some (.int .i64 0) := by simpa using Q2.cell (i := 5) (by omega)
 have c6 : w2.cell? ⟨w.heap.size + 1 + 1, 6, none⟩ = some (.int .i64 old) := by simpa using Q3.cell (i := 6) (by omega)
 have d6 : w2.cell? ⟨w.heap.size + 1, 6, none⟩ = some (.int .i64 0) := by simpa using Q2.cell (i := 6) (by omega)
 have c7 : w2.cell? ⟨w.heap.size + 1 + 1, 7, none⟩ = some (.int .i64 cp) := by simpa using Q3.cell (i := 7) (by omega)
 have d7 : w2.cell? ⟨w.heap.size + 1, 7, none⟩ = some (.int .i64 0) := by simpa using Q2.cell (i := 7) (by omega)
 have c8 : w2.cell? ⟨w.heap.size + 1 + 1, 8, none⟩ = some (.int .i64 sr) := by simpa using Q3.cell (i := 8) (by omega)
 have d8 : w2.cell? ⟨w.heap.size + 1, 8, none⟩ = some (.int .i64 0) := by simpa using Q2.cell (i := 8) (by omega)
 have c9 : w2.cell? ⟨w.heap.size + 1 + 1, 9, none⟩ = some (.slice none 0 0) := by simpa using Q3.cell (i := 9) (by omega)
 have d9 : w2.cell? ⟨w.heap.size + 1, 9, none⟩ = some (.slice none 0 0) := by simpa using Q2.cell (i := 9) (by omega)
 have f3 := Q3.frozen
 have f2 := Q2.frozen
 have HQ3 : Hid (w.heap.size + 1 + 1 < w2.heap.size) := Q3.lt
 have HSW : Hid (zab (w.heap.size + 1 + 1 + 1) W9.heap.size 77 w2 (.slice (some ⟨w.heap.size + 1 + 1 + 1, 0, none⟩) ws.length ws.length) ws.length ws.length (fun i => .int .u64 (za ws i))) := by show zab (w.heap.size + 1 + 1 + 1) W9.heap.size 77 w2 (.slice (some ⟨w.heap.size + 1 + 1 + 1, 0, none⟩) ws.length ws.length) ws.length ws.length (fun i => .int .u64 (za ws i)); simpa using OW2
 have HSR : Hid (zab W9.heap.size (W9.heap.size + 1) 57 w2 (.slice (some ⟨W9.heap.size, 0, none⟩) rs.length rs.length) rs.length (2 * rs.length) (fun i => .int .i64 (y i))) := ⟨_, _, rfl, .inr ⟨W9.heap.size, rs.length * 2, _, rfl, Nat.le_refl _, Nat.lt_succ_self _, by omega, rr, fun _ _ => rfl⟩⟩
 have HB2 : Hid (Below w.heap.size w w2) := B2
 have H9 : Hid (W9.heap.size < w2.heap.size) := rl
 have H8 : Hid (w.heap.size + 1 + 1 + 1 <= W9.heap.size) := by show w.heap.size + 1 + 1 + 1 <= W9.heap.size; omega
 clear Q3 Q2 OW2 rr B2 rl
 go_wp2
 have p0 : (w2.cell? ⟨w.heap.size + 1, 0, none⟩).isSome = true := by rw [d0]; rfl
 have p1 : (w2.cell? ⟨w.heap.size + 1, 1, none⟩).isSome = true := by rw [d1]; rfl
 have p2 : (w2.cell? ⟨w.heap.size + 1, 2, none⟩).isSome = true := by rw [d2]; rfl
 have p3 : (w2.cell? ⟨w.heap.size + 1, 3, none⟩).isSome = true := by rw [d3]; rfl
 have p4 : (w2.cell? ⟨w.heap.size + 1, 4, none⟩).isSome = true := by rw [d4]; rfl
 have p5 : (w2.cell? ⟨w.heap.size + 1, 5, none⟩).isSome = true := by rw [d5]; rfl
 have p6 : (w2.cell? ⟨w.heap.size + 1, 6, none⟩).isSome = true := by rw [d6]; rfl
 have p7 : (w2.cell? ⟨w.heap.size + 1, 7, none⟩).isSome = true := by rw [d7]; rfl
 have p8 : (w2.cell? ⟨w.heap.size + 1, 8, none⟩).isSome = true := by rw [d8]; rfl
 have p9 : (w2.cell? ⟨w.heap.size + 1, 9, none⟩).isSome = true := by rw [d9]; rfl
 refine bodyPost_ret (v := .agg #[.slice (some ⟨w.heap.size + 1 + 1 + 1, 0, none⟩) ws.length ws.length, .int .i64 sm, .int .i64 toh, .int .i64 top, .bool cyc, .int .i64 sn, .int .i64 old, .int .i64 cp, .int .i64 sr, .slice (some ⟨W9.heap.size, 0, none⟩) rs.length rs.length]) (by simp [results, Tryz.results13, go_sem, p0, p1, p2, p3, p4, p5, p6, p7, p8, p9]) rfl ⟨_, _, rfl, ?_, ?_⟩
 · have h9 := H9.out
   have h8 := H8.out
   refine ⟨w.heap.size + 1 + 1 + 1, W9.heap.size, W9.heap.size, W9.heap.size + 1, by omega, by simp; omega, by omega, by simp; omega, by omega, ?_, ?_⟩
   · have g1 : w.heap.size + 1 < w.heap.size + 1 + 1 + 1 \/ W9.heap.size <= w.heap.size + 1 := by omega
     have g2 : w.heap.size + 1 + 1 < w.heap.size + 1 + 1 + 1 \/ W9.heap.size <= w.heap.size + 1 + 1 := by omega
     refine zay ?_ g1 _
     refine zay ?_ g1 _
     refine zay ?_ g1 _
     refine zay ?_ g1 _
     refine zay ?_ g1 _
     refine zay ?_ g1 _
     refine zay ?_ g1 _
     refine zay ?_ g1 _
     refine zay ?_ g1 _
     refine zay ?_ g1 _
     refine zay ?_ g2 _
     exact HSW.out
   · have g1 : w.heap.size + 1 < W9.heap.size \/ W9.heap.size + 1 <= w.heap.size + 1 := by omega
     have g2 : w.heap.size + 1 + 1 < W9.heap.size \/ W9.heap.size + 1 <= w.heap.size + 1 + 1 := by omega
     refine zay ?_ g1 _
     refine zay ?_ g1 _
     refine zay ?_ g1 _
     refine zay ?_ g1 _
     refine zay ?_ g1 _
     refine zay ?_ g1 _
     refine zay ?_ g1 _
     refine zay ?_ g1 _
     refine zay ?_ g1 _
     refine zay ?_ g1 _
     refine zay ?_ g2 _
     exact HSR.out
 · refine Below.setCell ?_ (Nat.le_succ _) _
   refine Below.setCell ?_ (Nat.le_succ _) _
   refine Below.setCell ?_ (Nat.le_succ _) _
   refine Below.setCell ?_ (Nat.le_succ _) _
   refine Below.setCell ?_ (Nat.le_succ _) _
   refine Below.setCell ?_ (Nat.le_succ _) _
   refine Below.setCell ?_ (Nat.le_succ _) _
   refine Below.setCell ?_ (Nat.le_succ _) _
   refine Below.setCell ?_ (Nat.le_succ _) _
   refine Below.setCell ?_ (Nat.le_succ _) _
   refine Below.setCell ?_ hz2 _
   exact HB2.out
theorem zjl {B T : Nat} {w : World} {a1 a2 : Option Addr} {c1 c2 : Nat} {ws : List Int} {m : Nat} {y : Nat -> Int} (h : zak B T w (.slice a1 ws.length c1) (.slice a2 m c2) ws.length m (za ws) y) :
 Sl w (.slice a1 ws.length c1) ws /\ SlF w.heap.size w (.slice a2 m c2) m (2 * m) (fun i => .int .i64 (y i)) := by
 refine ⟨?_, h.sl.2.here⟩
 obtain ⟨a, c, he, hc⟩ := h.sl.1
 refine ⟨a, c, he, ?_⟩
 rcases hc with h0 | ⟨b, off, rfl, _, hb, hc⟩
 · exact .inl (List.eq_nil_of_length_eq_zero h0)
 · exact .inr ⟨b, off, rfl, hb, hc⟩
theorem zpn {B T C U : Nat} {w w' : World} {vw vr : Value} {n m : Nat} {z y : Nat -> Int} (h : zak B T w vw vr n m z y) (hb : zad C U w w') (hU : U <= B) : zak B T w' vw vr n m z y := by
 obtain ⟨b1, t1, b2, t2, h1, h2, h3, h4, h5, h6, h7⟩ := h
 exact ⟨b1, t1, b2, t2, h1, h2, h3, h4, h5, h6.apart hb (by omega), h7.apart hb (by omega)⟩
end Go.Proofs.YtdnhohndppmgcaaGreatDoor
