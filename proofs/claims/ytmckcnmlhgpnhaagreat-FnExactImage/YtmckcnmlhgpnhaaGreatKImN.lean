/- The model's l15Numbers. -/
import Derived.Test.YtmckcnmlhgpnhaaGreatKImU
import Derived.Test.YtmckcnmlhgpnhaaGreatKReadsB
import Derived.Test.YtmckcnmlhgpnhaaGreatKArnA
import Derived.Maps.AppendAt
import Derived.OwnWalk
import Derived.WalkSmall
import Derived.Deep.RegionHeld3
import Derived.Deep.CutRange
namespace Go.Proofs.YtmckcnmlhgpnhaaGreat
set_option maxRecDepth 20000
open Go.RowKit Go.Maps
set_option linter.unusedSimpArgs false
set_option linter.unusedVariables false

/-- An operation of a drawn region is taken: wanted, or not. -/
theorem tkI {P : Program} {md : Region.Mode} {ops : Array Oper} {Q : Exit → Act → World → Prop} {S : World → Prop} {fuel : Nat} {listed : Array Bool} {a : Act} {w : World} {o : Op} {ty : TypeId} {ps : String} {af : Array Edge} {gd : Option (Nat × Bool)} (i d : Nat) (v : Value) (hS : S w) (hi : ops[i]? = some { dst := some d, op := o, type := ty, pos := ps, after := af, guard := gd })
    (h : wpAnyH P md ops Q S fuel (listed.setIfInBounds i true) (a.put (some d) v) w)
    (hv : ∀ w, S w → (execOp a.eval { dst := some d, op := o, type := ty, pos := ps, after := af, guard := gd }).run P w = .ok (.value v) w := by intro w hSw; (try dsimp only at hSw); go_simp)
    (hw : Region.wanted { dst := some d, op := o, type := ty, pos := ps, after := af, guard := gd } (yielded ops a.tmps) = true := by kernel_rfl)
    (hs : Region.noSelect ops = true := by kernel_rfl) (hf : Region.free md ops listed i = true := by kernel_rfl) (hr : (Region.ready md ops listed).contains i = true := by kernel_rfl)
    (hQ : ∀ c a w, Q (.panic c) (a.put (some d) v) w → Q (.panic c) a w := by exact fun _ _ _ h => h) : wpAnyH P md ops Q S (fuel + 1) listed a w :=
  wpAnyH_take hi hs hf hr hQ (Or.inl ⟨hw, hv⟩) hS h
theorem slice_img (b off l cw P Q : Nat) (h : P ≤ Q) (hQ : Q ≤ cw) (hP : P < cw) (W : World) : (Instr.sliceAt 22 (.slice (some ⟨b, off, none⟩) l cw) (some (.int .i64 (P : Int))) (some (.int .i64 (Q : Int))) none).run Tryz.prog W = .ok (.slice (some ⟨b, off + P, none⟩) (Q - P) (cw - P)) W := by
  have hz := Tryz.sizeOf100
  have he : Tryz.prog.elem 22 = 100 := by kernel_rfl
  rw [run_sliceAt_slice W 22 _ _ _ _ (by kernel_rfl), run_slice_lh W 22 _ _ _ (by rw [he]; exact Tryz.underlying22) .i64 .i64 _ _ (by omega) (by omega) (by omega), he, hz]
  have g1 : ¬ cw = P := by omega
  simp [Result.andThen, sliced, g1, Addr.add]
  try omega
set_option maxHeartbeats 4000000 in
theorem l15Numbers_false (b off cw : Nat) (ws : List Int) (semi toh scan old copied serial : Int) (ar : Option Addr) (cr : Nat) (rs : List (Int × Int)) (y : Nat → Int) (w : World) (S T F O : Nat) (hb : b < w.heap.size) (hc : ∀ i, i < ws.length → w.cell? ⟨b, off + i, none⟩ = some (.int .u64 (wordAt ws i))) (hcw : ws.length ≤ cw) (hn : ws.length ≤ 8000) (hw : Words64 ws) (hrt : SlF w.heap.size w (.slice ar rs.length cr) rs.length (2 * rs.length) (fun i => .int .i64 (y i))) (hrl : rs.length ≤ 24)
    (s0 : 256 ≤ semi) (s1 : semi ≤ 4000) (t0 : 0 ≤ toh) (t1 : toh ≤ 1) (hS : toh * semi + 1 = S) (hST : S ≤ T) (hT : T ≤ ws.length) (hS2 : S < ws.length) (hF : True) (n1 : 0 ≤ scan) (n2 : scan ≤ 100000) (n3 : 0 ≤ old) (n4 : old ≤ 100000) (n5 : 0 ≤ copied) (n6 : copied ≤ 100000) (n7 : 0 ≤ serial) (n8 : serial ≤ 10000000000) :
    Calls Tryz.prog 66 #[.agg #[.slice (some ⟨b, off, none⟩) ws.length cw, .int .i64 semi, .int .i64 toh, .int .i64 (T : Int), .bool false, .int .i64 scan, .int .i64 old, .int .i64 copied, .int .i64 serial, .slice ar rs.length cr]] w fun e w' => ∃ v', e = .returned v' ∧ UR w.heap.size w' v' (imgL ws semi toh T false scan old copied serial y rs.length S T F O) ∧ Below w.heap.size w w' := by
  obtain ⟨i0, hi, hz0, hz1', hz2⟩ := info_parts infoU64
  have hrl' : (rs.length : Int) ≤ 24 := by omega
  have hT' : (T : Int) ≤ 8000 := by omega
  have HR : Hid (SlF w.heap.size w (.slice ar rs.length cr) rs.length (2 * rs.length) (fun i => .int .i64 (y i))) := hrt
  have HC : Hid (∀ i, i < ws.length → w.cell? ⟨b, off + i, none⟩ = some (.int .u64 (wordAt ws i))) := hc
  have HSe : Hid (toh * semi + 1 = (S : Int)) := hS
  clear hrt hc hS
  go_enter Tryz.func66, Tryz.ntmps66
  go_upto_region 5 with fail
  obtain ⟨w2, hw2⟩ : ∃ V, V = (w.alloc (.cells #[.slice (some ⟨b, off, none⟩) ws.length cw, .int .i64 semi, .int .i64 toh, .int .i64 (T : Int), .bool false, .int .i64 scan, .int .i64 old, .int .i64 copied, .int .i64 serial, .slice ar rs.length cr] 30)).alloc (.cells (ucl [semi, toh, (T : Int), 0, scan, old, copied, serial, (rs.length : Int)]).toArray 100) := ⟨_, rfl⟩
  have e2 : (ucl [semi, toh, (T : Int), 0, scan, old, copied, serial, (rs.length : Int)]).toArray = #[.int .u64 semi, .int .u64 toh, .int .u64 (T : Int), .int .u64 0, .int .u64 scan, .int .u64 old, .int .u64 copied, .int .u64 serial, .int .u64 (rs.length : Int)] := rfl
  rw [e2] at hw2
  rw [← hw2]
  have U2 : UR (w.heap.size + 1) w2 (.slice (some ⟨w.heap.size + 1, 0, none⟩) 9 9) [semi, toh, (T : Int), 0, scan, old, copied, serial, (rs.length : Int)] := by
    have := UR.new (B := w.heap.size + 1) (w := w.alloc (.cells #[.slice (some ⟨b, off, none⟩) ws.length cw, .int .i64 semi, .int .i64 toh, .int .i64 (T : Int), .bool false, .int .i64 scan, .int .i64 old, .int .i64 copied, .int .i64 serial, .slice ar rs.length cr] 30)) [semi, toh, (T : Int), 0, scan, old, copied, serial, (rs.length : Int)] (by simp) (by simp)
    rw [e2] at this
    rw [hw2]
    simpa using this
  have B2 : Below w.heap.size w w2 := by rw [hw2]; exact ((Below.refl _ _).alloc (Nat.le_refl _) _).alloc (by simp) _
  have z2 : w2.heap.size = w.heap.size + 2 := by rw [hw2]; simp
  have k2 : Hid (∀ i, w2.cell? ⟨w.heap.size, i, none⟩ = (#[.slice (some ⟨b, off, none⟩) ws.length cw, .int .i64 semi, .int .i64 toh, .int .i64 (T : Int), .bool false, .int .i64 scan, .int .i64 old, .int .i64 copied, .int .i64 serial, .slice ar rs.length cr] : Array Value)[i]?) := fun i => by rw [hw2]; simp [go_sem]
  have HU2 : Hid (UR (w.heap.size + 1) w2 (.slice (some ⟨w.heap.size + 1, 0, none⟩) 9 9) [semi, toh, (T : Int), 0, scan, old, copied, serial, (rs.length : Int)]) := U2
  have HB2 : Hid (Below w.heap.size w w2) := B2
  clear hw2 e2 U2 B2
  go_wp2_with fail
  go_loopw [4, 5] (fun v i wr => ∃ (k : Nat) (u : Value), k ≤ rs.length ∧ u = v ∧ i = .int .i64 k ∧ UR (w.heap.size + 1) wr u ([semi, toh, (T : Int), 0, scan, old, copied, serial, (rs.length : Int)] ++ imgR y k) ∧ Below (w.heap.size + 1) w2 wr) (fun _ i _ => rs.length - (intOf i).toNat)
  case atStart => exact ⟨0, _, Nat.zero_le _, rfl, rfl, by simpa [imgR] using HU2.out, Below.refl _ _⟩
  case round =>
    obtain ⟨k, u, hk, rfl, rfl, hU, hF⟩ := hrel
    have kr := has_below k2.out hF (by omega)
    have BW : Below w.heap.size w wr := HB2.out.trans (hF.mono (by omega))
    by_cases hlt : k < rs.length
    · have hlt' : (k : Int) < (rs.length : Int) := by omega
      obtain ⟨br, offr, cap', hv, _, lbr, hcr⟩ := HR.out.parts (k := 0) (by omega)
      simp only [Value.slice.injEq] at hv
      obtain ⟨rfl, _, rfl⟩ := hv
      have x0 : wr.cell? ⟨br, offr + k * 2, none⟩ = some (.int .i64 (y (2 * k))) := by rw [BW.cell (p := ⟨br, offr + k * 2, none⟩) lbr, Nat.mul_comm]; exact hcr (2 * k) (by omega)
      have x1 : wr.cell? ⟨br, offr + k * 2 + 1, none⟩ = some (.int .i64 (y (2 * k + 1))) := by rw [BW.cell (p := ⟨br, offr + k * 2 + 1, none⟩) lbr, Nat.mul_comm]; exact hcr (2 * k + 1) (by omega)
      have hl : ([semi, toh, (T : Int), 0, scan, old, copied, serial, (rs.length : Int)] ++ imgR y k).length ≤ 60 := by simp [imgR_len]; omega
      have hL : [semi, toh, (T : Int), 0, scan, old, copied, serial, (rs.length : Int)] ++ imgR y (k + 1) = ([semi, toh, (T : Int), 0, scan, old, copied, serial, (rs.length : Int)] ++ imgR y k) ++ [IntKind.u64.wrap (y (2 * k)), IntKind.u64.wrap (y (2 * k + 1))] := by show [semi, toh, (T : Int), 0, scan, old, copied, serial, (rs.length : Int)] ++ (imgR y k ++ _) = _; rw [← List.append_assoc]; rfl
      have HL : Hid ([semi, toh, (T : Int), 0, scan, old, copied, serial, (rs.length : Int)] ++ imgR y (k + 1) = ([semi, toh, (T : Int), 0, scan, old, copied, serial, (rs.length : Int)] ++ imgR y k) ++ [IntKind.u64.wrap (y (2 * k)), IntKind.u64.wrap (y (2 * k + 1))]) := hL
      have HUr : Hid (UR (w.heap.size + 1) wr u ([semi, toh, (T : Int), 0, scan, old, copied, serial, (rs.length : Int)] ++ imgR y k)) := hU
      have HFr : Hid (Below (w.heap.size + 1) w2 wr) := hF
      have hs : w.heap.size + 1 ≤ wr.heap.size := by have := hF.size; omega
      generalize [semi, toh, (T : Int), 0, scan, old, copied, serial, (rs.length : Int)] ++ imgR y k = ys at HUr HL hl
      generalize y (2 * k) = ta at x0 HL
      generalize y (2 * k + 1) = na at x1 HL
      clear hcr hL hU hF BW
      go_wp2_with fail
      have bd : Below wr.heap.size wr wr.drew := (Below.refl _ _).drew
      refine wp_region_held_drew (S := fun V => V.cell? ⟨w.heap.size, 9, none⟩ = some (.slice (some ⟨br, offr, none⟩) rs.length cr) ∧ V.cell? ⟨br, offr + k * 2, none⟩ = some (.int .i64 ta) ∧ V.cell? ⟨br, offr + k * 2 + 1, none⟩ = some (.int .i64 na)) (by kernel_rfl) ⟨kr 9, x0, x1⟩ (fun hHeld => ?_)
      refine tkI 0 44 (u) hHeld rfl ?_
      try simp only [Act.put, List.setIfInBounds_toArray, List.set_cons_zero, List.set_cons_succ]
      refine tkI 1 45 (.pointer (some ⟨w.heap.size, 9, none⟩)) hHeld rfl ?_
      try simp only [Act.put, List.setIfInBounds_toArray, List.set_cons_zero, List.set_cons_succ]
      refine tkI 2 46 (.slice (some ⟨br, offr, none⟩) rs.length cr) hHeld rfl ?_
      try simp only [Act.put, List.setIfInBounds_toArray, List.set_cons_zero, List.set_cons_succ]
      refine tkI 3 47 (.int .i64 (k : Int)) hHeld rfl ?_
      try simp only [Act.put, List.setIfInBounds_toArray, List.set_cons_zero, List.set_cons_succ]
      refine tkI 4 48 (.pointer (some ⟨br, offr + k * 2, none⟩)) hHeld rfl ?_
      try simp only [Act.put, List.setIfInBounds_toArray, List.set_cons_zero, List.set_cons_succ]
      refine tkI 5 49 (.pointer (some ⟨br, offr + k * 2, none⟩)) hHeld rfl ?_
      try simp only [Act.put, List.setIfInBounds_toArray, List.set_cons_zero, List.set_cons_succ]
      refine tkI 6 50 (.int .i64 ta) hHeld rfl ?_
      try simp only [Act.put, List.setIfInBounds_toArray, List.set_cons_zero, List.set_cons_succ]
      refine tkI 7 51 (.int .u64 (IntKind.u64.wrap ta)) hHeld rfl ?_
      try simp only [Act.put, List.setIfInBounds_toArray, List.set_cons_zero, List.set_cons_succ]
      refine tkI 8 52 (.pointer (some ⟨w.heap.size, 9, none⟩)) hHeld rfl ?_
      try simp only [Act.put, List.setIfInBounds_toArray, List.set_cons_zero, List.set_cons_succ]
      refine tkI 9 53 (.slice (some ⟨br, offr, none⟩) rs.length cr) hHeld rfl ?_
      try simp only [Act.put, List.setIfInBounds_toArray, List.set_cons_zero, List.set_cons_succ]
      refine tkI 10 54 (.int .i64 (k : Int)) hHeld rfl ?_
      try simp only [Act.put, List.setIfInBounds_toArray, List.set_cons_zero, List.set_cons_succ]
      refine tkI 11 55 (.pointer (some ⟨br, offr + k * 2, none⟩)) hHeld rfl ?_
      try simp only [Act.put, List.setIfInBounds_toArray, List.set_cons_zero, List.set_cons_succ]
      refine tkI 12 56 (.pointer (some ⟨br, offr + k * 2 + 1, none⟩)) hHeld rfl ?_
      try simp only [Act.put, List.setIfInBounds_toArray, List.set_cons_zero, List.set_cons_succ]
      refine tkI 13 57 (.int .i64 na) hHeld rfl ?_
      try simp only [Act.put, List.setIfInBounds_toArray, List.set_cons_zero, List.set_cons_succ]
      refine tkI 14 58 (.int .u64 (IntKind.u64.wrap na)) hHeld rfl ?_
      try simp only [Act.put, List.setIfInBounds_toArray, List.set_cons_zero, List.set_cons_succ]
      refine wpAnyH_ready (rs := [15]) (by kernel_rfl) (by simp) ?_
      refine AllReadyH.cons (o := { dst := some 59, op := _, type := _, pos := _, after := _, guard := _ }) rfl (fun K hK => ?_) AllReadyH.nil
      go_simp
      obtain ⟨W1, hW1⟩ : ∃ V, V = (wr.alloc (.cells #[.int .u64 (IntKind.u64.wrap ta), .int .u64 (IntKind.u64.wrap na)] 100)).drew := ⟨_, rfl⟩
      rw [← hW1]
      have b1 : Below wr.heap.size wr W1 := by rw [hW1]; exact ((Below.refl _ _).alloc (Nat.le_refl _) _).drew
      have U1 : UR (w.heap.size + 1) W1 u ys := HUr.out.below b1
      have hN : ∀ j v, ([.int .u64 (IntKind.u64.wrap ta), .int .u64 (IntKind.u64.wrap na)] : List Value)[j]? = some v → W1.cell? ((⟨wr.heap.size, 0, none⟩ : Addr).add j) = some v := by rw [hW1]; simpa using cell_two_new wr (.int .u64 (IntKind.u64.wrap ta)) (.int .u64 (IntKind.u64.wrap na)) 100
      have B1 : Below (w.heap.size + 1) w2 W1 := HFr.out.trans (b1.mono hs)
      have h1 := b1.size
      have HK2 : Hid (∀ V, Below (w.heap.size + 1) wr V → V.cell? ⟨w.heap.size, 9, none⟩ = some (.slice (some ⟨br, offr, none⟩) rs.length cr) ∧ V.cell? ⟨br, offr + k * 2, none⟩ = some (.int .i64 ta) ∧ V.cell? ⟨br, offr + k * 2 + 1, none⟩ = some (.int .i64 na)) := fun V hV => ⟨by rw [hV.cell (p := ⟨w.heap.size, 9, none⟩) (by simp)]; exact kr 9, by rw [hV.cell (p := ⟨br, offr + k * 2, none⟩) (by simp; omega)]; exact x0, by rw [hV.cell (p := ⟨br, offr + k * 2 + 1, none⟩) (by simp; omega)]; exact x1⟩
      clear hW1 hHeld bd HUr HFr
      refine hK.out _ _ (HK2.out _ (b1.mono hs)) (fun hHeld => ?_)
      clear hK K
      try simp only [Act.put, List.setIfInBounds_toArray, List.set_cons_zero, List.set_cons_succ]
      refine wpAnyH_ready (rs := [16]) (by kernel_rfl) (by simp) ?_
      refine AllReadyH.cons (o := { dst := some 60, op := _, type := _, pos := _, after := _, guard := _ }) rfl (fun K hK => ?_) AllReadyH.nil
      rw [if_pos (by kernel_rfl)]
      refine wp_append_own _ _ _ 22 rfl (w.heap.size + 1) 100 i0 (.int .u64 0) 1 8 Tryz.underlying22 hi hz0 hz1' hz2 rfl (by decide) u ys.length (ucl ys) rfl U1 ⟨wr.heap.size, 0, none⟩ 2 2 [.int .u64 (IntKind.u64.wrap ta), .int .u64 (IntKind.u64.wrap na)] rfl rfl hN (ints_oneCell .u64 [IntKind.u64.wrap ta, IntKind.u64.wrap na]) (by unfold maxLen; omega) (by omega) (by omega) ?_
      intro v' w3 hown' hgrow hnil
      obtain ⟨R3, B3⟩ := UR.grow (news := [IntKind.u64.wrap ta, IntKind.u64.wrap na]) (by omega) U1 B1 hown' hgrow
      have B13 : Below (w.heap.size + 1) wr w3 := (UR.grow (news := [IntKind.u64.wrap ta, IntKind.u64.wrap na]) (by omega) U1 (b1.mono hs) hown' hgrow).2
      rw [← HL.out] at R3
      have HR3 : Hid (UR (w.heap.size + 1) w3 v' ([semi, toh, (T : Int), 0, scan, old, copied, serial, (rs.length : Int)] ++ imgR y (k + 1))) := R3
      have HB3 : Hid (Below (w.heap.size + 1) w2 w3) := B3
      clear hown' hgrow hnil R3 B3 U1 hN b1 B1 h1 hHeld
      refine hK.out _ _ (HK2.out _ B13) (fun hHeld => ?_)
      clear hK K B13
      try simp only [Act.put, List.setIfInBounds_toArray, List.set_cons_zero, List.set_cons_succ]
      refine tkI 17 4 v' hHeld rfl ?_
      try simp only [Act.put, List.setIfInBounds_toArray, List.set_cons_zero, List.set_cons_succ]
      refine wpAnyH_done (by kernel_rfl) ?_ _
      clear hHeld HK2 x0 x1 kr HL hl
      go_wp2
      go_roundw
      case rel => exact ⟨k + 1, _, by omega, rfl, by go_num, HR3.out, HB3.out⟩
      case measure => simp [intOf]; omega
    · have hge : (rs.length : Int) ≤ (k : Int) := by omega
      obtain rfl : k = rs.length := by omega
      obtain ⟨X1, hX1⟩ : ∃ X, X = [semi, toh, (T : Int), 0, scan, old, copied, serial, (rs.length : Int)] ++ imgR y rs.length := ⟨_, rfl⟩
      have hX1l : X1.length ≤ 60 := by rw [hX1]; simp [imgR_len]; omega
      rw [← hX1] at hU
      have HX1 : Hid (X1 = [semi, toh, (T : Int), 0, scan, old, copied, serial, (rs.length : Int)] ++ imgR y rs.length) := hX1
      have HU : Hid (UR (w.heap.size + 1) wr u X1) := hU
      have HBW : Hid (Below w.heap.size w wr) := BW
      have zr : w.heap.size + 1 ≤ wr.heap.size := by have := hF.size; omega
      have kr' : Hid (∀ i, wr.cell? ⟨w.heap.size, i, none⟩ = (#[.slice (some ⟨b, off, none⟩) ws.length cw, .int .i64 semi, .int .i64 toh, .int .i64 (T : Int), .bool false, .int .i64 scan, .int .i64 old, .int .i64 copied, .int .i64 serial, .slice ar rs.length cr] : Array Value)[i]?) := kr
      clear hX1 hU hF BW kr HU2 HB2 k2 z2 HR
      have k0 := kr'.out
      go_wp2_with fail
      clear k0
      have bd9 : Below wr.heap.size wr wr.drew := (Below.refl _ _).drew
      have kq9 : ∀ i, wr.drew.cell? ⟨w.heap.size, i, none⟩ = (#[.slice (some ⟨b, off, none⟩) ws.length cw, .int .i64 semi, .int .i64 toh, .int .i64 (T : Int), .bool false, .int .i64 scan, .int .i64 old, .int .i64 copied, .int .i64 serial, .slice ar rs.length cr] : Array Value)[i]? := has_below kr'.out bd9 zr
      refine wp_region_held_drew (S := fun V => ∀ i, V.cell? ⟨w.heap.size, i, none⟩ = (#[.slice (some ⟨b, off, none⟩) ws.length cw, .int .i64 semi, .int .i64 toh, .int .i64 (T : Int), .bool false, .int .i64 scan, .int .i64 old, .int .i64 copied, .int .i64 serial, .slice ar rs.length cr] : Array Value)[i]?) (by kernel_rfl) kr'.out (fun hHeld => ?_)
      refine tkI 0 61 (u) hHeld rfl ?_
      try simp only [Act.put, List.setIfInBounds_toArray, List.set_cons_zero, List.set_cons_succ]
      refine tkI 1 62 (.pointer (some ⟨w.heap.size, 0, none⟩)) hHeld rfl ?_
      try simp only [Act.put, List.setIfInBounds_toArray, List.set_cons_zero, List.set_cons_succ]
      refine tkI 2 63 (.slice (some ⟨b, off, none⟩) ws.length cw) hHeld rfl ?_ (by intro V hSw; have q := hSw 0; simp at q; go_simp)
      try simp only [Act.put, List.setIfInBounds_toArray, List.set_cons_zero, List.set_cons_succ]
      refine tkI 3 64 (.agg #[.slice (some ⟨b, off, none⟩) ws.length cw, .int .i64 semi, .int .i64 toh, .int .i64 (T : Int), .bool false, .int .i64 scan, .int .i64 old, .int .i64 copied, .int .i64 serial, .slice ar rs.length cr]) hHeld rfl ?_ (by intro V hSw; have q0 := hSw 0; have q1 := hSw 1; have q2 := hSw 2; have q3 := hSw 3; have q4 := hSw 4; have q5 := hSw 5; have q6 := hSw 6; have q7 := hSw 7; have q8 := hSw 8; have q9 := hSw 9; simp at q0 q1 q2 q3 q4 q5 q6 q7 q8 q9; go_simp)
      try simp only [Act.put, List.setIfInBounds_toArray, List.set_cons_zero, List.set_cons_succ]
      refine tkI 4 65 (.pointer (some ⟨w.heap.size, 2, none⟩)) hHeld rfl ?_
      try simp only [Act.put, List.setIfInBounds_toArray, List.set_cons_zero, List.set_cons_succ]
      refine tkI 5 66 (.int .i64 toh) hHeld rfl ?_ (by intro V hSw; have q := hSw 2; simp at q; go_simp)
      try simp only [Act.put, List.setIfInBounds_toArray, List.set_cons_zero, List.set_cons_succ]
      refine tkI 7 68 (.pointer (some ⟨w.heap.size, 3, none⟩)) hHeld rfl ?_
      try simp only [Act.put, List.setIfInBounds_toArray, List.set_cons_zero, List.set_cons_succ]
      refine tkI 8 69 (.int .i64 (T : Int)) hHeld rfl ?_ (by intro V hSw; have q := hSw 3; simp at q; go_simp)
      try simp only [Act.put, List.setIfInBounds_toArray, List.set_cons_zero, List.set_cons_succ]
      refine wpAnyH_ready (rs := [6]) (by kernel_rfl) (by simp) ?_
      refine AllReadyH.cons (o := { dst := some 67, op := _, type := _, pos := _, after := _, guard := _ }) rfl (fun K hK => ?_) AllReadyH.nil
      go_simp
      go_at_call 57
      refine (l2Start_is (some ⟨b, off, none⟩) cw ws semi toh (T : Int) false scan old copied serial ar cr rs toh S _ (by omega) (by omega) s0 s1 HSe.out).mono ?_
      rintro e wl9 ⟨rfl, bl⟩
      have b1 : Below wr.heap.size wr wl9 := below_next bd9 bl
      have kl : ∀ i, wl9.cell? ⟨w.heap.size, i, none⟩ = (#[.slice (some ⟨b, off, none⟩) ws.length cw, .int .i64 semi, .int .i64 toh, .int .i64 (T : Int), .bool false, .int .i64 scan, .int .i64 old, .int .i64 copied, .int .i64 serial, .slice ar rs.length cr] : Array Value)[i]? := has_below kr'.out b1 zr
      have U1 : UR (w.heap.size + 1) wl9 (u) X1 := HU.out.below b1
      have HK2 : Hid (∀ V, Below (w.heap.size + 1) wl9 V → ∀ i, V.cell? ⟨w.heap.size, i, none⟩ = (#[.slice (some ⟨b, off, none⟩) ws.length cw, .int .i64 semi, .int .i64 toh, .int .i64 (T : Int), .bool false, .int .i64 scan, .int .i64 old, .int .i64 copied, .int .i64 serial, .slice ar rs.length cr] : Array Value)[i]?) := fun V hV => has_below kl hV (by simp)
      have hN : ∀ j v, (ucl (cutW ws S T))[j]? = some v → wl9.cell? ((⟨b, off + S, none⟩ : Addr).add j) = some v := fun j v hj => by
        have hjl : j < T - S := by have := (List.getElem?_eq_some_iff.1 hj).1; rw [ucl_len, cutW_len (by omega) (by omega)] at this; exact this
        rw [cutW_at (by omega) hjl] at hj
        have hb2 := (HBW.out.trans (b1.mono (by omega))).cell (p := ⟨b, off + (S + j), none⟩) hb
        rw [HC.out _ (by omega), hj] at hb2
        rw [Addr.add_lit, Nat.add_assoc]
        exact hb2
      have hsl := fun V => slice_img b off ws.length cw S T (by omega) (by omega) (by omega) V
      have hz1 := b1.size
      clear bd9 kq9 bl hHeld
      refine hK.out _ _ kl (fun hHeld => ?_)
      clear hK K kl
      try simp only [Act.put, List.setIfInBounds_toArray, List.set_cons_zero, List.set_cons_succ]
      refine tkI 9 70 (.slice (some ⟨b, off + S, none⟩) (T - S) (cw - S)) hHeld rfl ?_ (by intro V hSw; have h := hsl V; go_simp)
      try simp only [Act.put, List.setIfInBounds_toArray, List.set_cons_zero, List.set_cons_succ]
      refine wpAnyH_ready (rs := [10]) (by kernel_rfl) (by simp) ?_
      refine AllReadyH.cons (o := { dst := some 71, op := _, type := _, pos := _, after := _, guard := _ }) rfl (fun K hK => ?_) AllReadyH.nil
      rw [if_pos (by kernel_rfl)]
      refine wp_append_own _ _ _ 22 rfl (w.heap.size + 1) 100 i0 (.int .u64 0) 1 8 Tryz.underlying22 hi hz0 hz1' hz2 rfl (by decide) (u) X1.length (ucl X1) rfl U1 ⟨b, off + S, none⟩ (T - S) (cw - S) (ucl (cutW ws S T)) rfl (by rw [ucl_len, cutW_len (by omega) (by omega), Nat.mul_one]) hN (ints_oneCell .u64 _) (by unfold maxLen; omega) (by omega) (by omega) ?_
      intro v' w9 hown' hgrow hnil
      obtain ⟨R3, B3⟩ := UR.grow (news := cutW ws S T) (by omega) U1 (b1.mono (by omega)) (by rw [cutW_len (by omega) (by omega)]; exact hown') hgrow
      have B4 : Below (w.heap.size + 1) wl9 w9 := (UR.grow (news := cutW ws S T) (by omega) U1 (Below.refl _ _) (by rw [cutW_len (by omega) (by omega)]; exact hown') hgrow).2
      obtain ⟨X2, hX2⟩ : ∃ X, X = X1 ++ cutW ws S T := ⟨_, rfl⟩
      have hX2l : X2.length ≤ 8060 := by rw [hX2]; simp [cutW_len (show S ≤ T by omega) (show T ≤ ws.length by omega)]; omega
      rw [← hX2] at R3
      have HX2 : Hid (X2 = X1 ++ cutW ws S T) := hX2
      replace HU : Hid (UR (w.heap.size + 1) w9 v' X2) := R3
      replace HBW : Hid (Below w.heap.size w w9) := HBW.out.trans (B3.mono (by omega))
      replace zr : w.heap.size + 1 ≤ w9.heap.size := by have := B3.size; omega
      have k3 := HK2.out _ B4
      replace kr' : Hid (∀ i, w9.cell? ⟨w.heap.size, i, none⟩ = (#[.slice (some ⟨b, off, none⟩) ws.length cw, .int .i64 semi, .int .i64 toh, .int .i64 (T : Int), .bool false, .int .i64 scan, .int .i64 old, .int .i64 copied, .int .i64 serial, .slice ar rs.length cr] : Array Value)[i]?) := k3
      clear hown' hgrow hnil R3 B3 B4 U1 hN b1 hHeld hX2 hsl HK2 hz1
      refine hK.out _ _ k3 (fun hHeld => ?_)
      clear hK K k3
      try simp only [Act.put, List.setIfInBounds_toArray, List.set_cons_zero, List.set_cons_succ]
      refine tkI 11 4 (v') hHeld rfl ?_
      try simp only [Act.put, List.setIfInBounds_toArray, List.set_cons_zero, List.set_cons_succ]
      refine wpAnyH_done (by kernel_rfl) ?_ _
      clear hHeld
      obtain ⟨va, vc, rfl⟩ := UR.form HU.out
      obtain ⟨XE, hXE⟩ : ∃ X, X = X2 := ⟨_, rfl⟩
      have hle : XE.length ≤ 16060 := by rw [hXE]; omega
      have hle' : (XE.length : Int) ≤ 16060 := by omega
      rw [← hXE] at HU ⊢
      have HXE : Hid (XE = X2) := hXE
      have HXI : Hid (XE = imgW ws semi toh T false scan old copied serial y rs.length S T F O) := by
        show XE = _
        rw [HXE.out, HX2.out, HX1.out]
        simp [imgW]
      clear hXE hX2l
      have k0 := kr'.out
      go_wp2_with fail
      clear k0
      go_loopw [6, 7] (fun s i wr => ∃ k : Nat, k ≤ XE.length ∧ i = .int .i64 k ∧ s = .int .u64 (sumU (XE.take k)) ∧ wr = w9) (fun _ i _ => XE.length - (intOf i).toNat)
      case atStart => exact ⟨0, Nat.zero_le _, rfl, rfl, rfl⟩
      case round =>
        obtain ⟨k, hk, rfl, rfl, rfl⟩ := hrel
        by_cases hlt : k < XE.length
        · have hlt' : (k : Int) < (XE.length : Int) := by omega
          obtain ⟨bx, ox, cx, hv, _, lbx, hcx⟩ := (UR.sl HU.out).parts (k := k) hlt
          simp only [Value.slice.injEq] at hv
          obtain ⟨rfl, _, rfl⟩ := hv
          have x0 := hcx k hlt
          have HT : Hid (sumU (XE.take (k + 1)) = IntKind.u64.wrap (sumU (XE.take k) + XE.getD k 0)) := sumU_take hlt
          generalize sumU (XE.take k) = sk at HT
          generalize XE.getD k 0 = xk at HT x0
          clear hcx
          go_wp2
          go_roundw
          case rel => exact ⟨k + 1, by omega, by go_num, by rw [HT.out], by first | rfl | trivial⟩
          case measure => simp [intOf]; omega
        · have hge : (XE.length : Int) ≤ (k : Int) := by omega
          obtain rfl : k = XE.length := by omega
          rw [List.take_length]
          have HE : Hid (XE ++ [sumU XE] = imgL ws semi toh T false scan old copied serial y rs.length S T F O) := by show _ = _; rw [HXI.out]; rfl
          generalize sumU XE = sk at HE
          go_wp2_with (at_builtin; refine wpList_append_own _ rfl _ _ 22 rfl (w.heap.size + 1) 100 i0 (.int .u64 0) 1 8 Tryz.underlying22 hi hz0 hz1' hz2 rfl (by decide) (.slice va XE.length vc) XE.length (ucl XE) rfl (UR.alloc HU.out _) ⟨wr.heap.size, 0, none⟩ 1 1 [.int .u64 sk] rfl rfl (cell_one_new _ _ _) (ints_oneCell .u64 [sk]) (by unfold maxLen; omega) (by omega) (by simp; omega) ?_)
          intro v2 w4 hown' hgrow hnil
          obtain ⟨R4, B4⟩ := UR.grow1 (news := [sk]) zr HU.out (Below.refl _ _) hown' hgrow
          rw [HE.out] at R4
          have HR4 : Hid (UR w.heap.size w4 v2 (imgL ws semi toh T false scan old copied serial y rs.length S T F O)) := UR.mono R4 (by omega)
          have HB4 : Hid (Below w.heap.size w w4) := HBW.out.trans (B4.mono (by omega))
          clear hown' hgrow hnil R4 B4
          go_wp2
          go_ret
          exact ⟨_, rfl, HR4.out, HB4.out⟩
set_option maxHeartbeats 4000000 in
theorem l15Numbers_true (b off cw : Nat) (ws : List Int) (semi toh scan copied serial : Int) (ar : Option Addr) (cr : Nat) (rs : List (Int × Int)) (y : Nat → Int) (w : World) (S T F O : Nat) (hb : b < w.heap.size) (hc : ∀ i, i < ws.length → w.cell? ⟨b, off + i, none⟩ = some (.int .u64 (wordAt ws i))) (hcw : ws.length ≤ cw) (hn : ws.length ≤ 8000) (hw : Words64 ws) (hrt : SlF w.heap.size w (.slice ar rs.length cr) rs.length (2 * rs.length) (fun i => .int .i64 (y i))) (hrl : rs.length ≤ 24)
    (s0 : 256 ≤ semi) (s1 : semi ≤ 4000) (t0 : 0 ≤ toh) (t1 : toh ≤ 1) (hS : toh * semi + 1 = S) (hST : S ≤ T) (hT : T ≤ ws.length) (hS2 : S < ws.length) (hF : (1 - toh) * semi + 1 = F ∧ F ≤ O ∧ O ≤ ws.length ∧ F < ws.length) (n1 : 0 ≤ scan) (n2 : scan ≤ 100000) (n5 : 0 ≤ copied) (n6 : copied ≤ 100000) (n7 : 0 ≤ serial) (n8 : serial ≤ 10000000000) :
    Calls Tryz.prog 66 #[.agg #[.slice (some ⟨b, off, none⟩) ws.length cw, .int .i64 semi, .int .i64 toh, .int .i64 (T : Int), .bool true, .int .i64 scan, .int .i64 (O : Int), .int .i64 copied, .int .i64 serial, .slice ar rs.length cr]] w fun e w' => ∃ v', e = .returned v' ∧ UR w.heap.size w' v' (imgL ws semi toh T true scan (O : Int) copied serial y rs.length S T F O) ∧ Below w.heap.size w w' := by
  obtain ⟨i0, hi, hz0, hz1', hz2⟩ := info_parts infoU64
  have hrl' : (rs.length : Int) ≤ 24 := by omega
  have hT' : (T : Int) ≤ 8000 := by omega
  have HR : Hid (SlF w.heap.size w (.slice ar rs.length cr) rs.length (2 * rs.length) (fun i => .int .i64 (y i))) := hrt
  have HC : Hid (∀ i, i < ws.length → w.cell? ⟨b, off + i, none⟩ = some (.int .u64 (wordAt ws i))) := hc
  have HSe : Hid (toh * semi + 1 = (S : Int)) := hS
  clear hrt hc hS
  have HFe : Hid ((1 - toh) * semi + 1 = (F : Int)) := hF.1
  obtain ⟨_, hF1, hF2, hF3⟩ := hF
  have hO8 : (O : Int) ≤ 8000 := by omega
  have hwr : IntKind.i64.wrap (1 - toh) = 1 - toh := by rw [IntKind.wrap_i64]; omega
  go_enter Tryz.func66, Tryz.ntmps66
  go_upto_region 5 with fail
  obtain ⟨w2, hw2⟩ : ∃ V, V = (w.alloc (.cells #[.slice (some ⟨b, off, none⟩) ws.length cw, .int .i64 semi, .int .i64 toh, .int .i64 (T : Int), .bool true, .int .i64 scan, .int .i64 (O : Int), .int .i64 copied, .int .i64 serial, .slice ar rs.length cr] 30)).alloc (.cells (ucl [semi, toh, (T : Int), 1, scan, (O : Int), copied, serial, (rs.length : Int)]).toArray 100) := ⟨_, rfl⟩
  have e2 : (ucl [semi, toh, (T : Int), 1, scan, (O : Int), copied, serial, (rs.length : Int)]).toArray = #[.int .u64 semi, .int .u64 toh, .int .u64 (T : Int), .int .u64 1, .int .u64 scan, .int .u64 (O : Int), .int .u64 copied, .int .u64 serial, .int .u64 (rs.length : Int)] := rfl
  rw [e2] at hw2
  rw [← hw2]
  have U2 : UR (w.heap.size + 1) w2 (.slice (some ⟨w.heap.size + 1, 0, none⟩) 9 9) [semi, toh, (T : Int), 1, scan, (O : Int), copied, serial, (rs.length : Int)] := by
    have := UR.new (B := w.heap.size + 1) (w := w.alloc (.cells #[.slice (some ⟨b, off, none⟩) ws.length cw, .int .i64 semi, .int .i64 toh, .int .i64 (T : Int), .bool true, .int .i64 scan, .int .i64 (O : Int), .int .i64 copied, .int .i64 serial, .slice ar rs.length cr] 30)) [semi, toh, (T : Int), 1, scan, (O : Int), copied, serial, (rs.length : Int)] (by simp) (by simp)
    rw [e2] at this
    rw [hw2]
    simpa using this
  have B2 : Below w.heap.size w w2 := by rw [hw2]; exact ((Below.refl _ _).alloc (Nat.le_refl _) _).alloc (by simp) _
  have z2 : w2.heap.size = w.heap.size + 2 := by rw [hw2]; simp
  have k2 : Hid (∀ i, w2.cell? ⟨w.heap.size, i, none⟩ = (#[.slice (some ⟨b, off, none⟩) ws.length cw, .int .i64 semi, .int .i64 toh, .int .i64 (T : Int), .bool true, .int .i64 scan, .int .i64 (O : Int), .int .i64 copied, .int .i64 serial, .slice ar rs.length cr] : Array Value)[i]?) := fun i => by rw [hw2]; simp [go_sem]
  have HU2 : Hid (UR (w.heap.size + 1) w2 (.slice (some ⟨w.heap.size + 1, 0, none⟩) 9 9) [semi, toh, (T : Int), 1, scan, (O : Int), copied, serial, (rs.length : Int)]) := U2
  have HB2 : Hid (Below w.heap.size w w2) := B2
  clear hw2 e2 U2 B2
  go_wp2_with fail
  go_loopw [4, 5] (fun v i wr => ∃ (k : Nat) (u : Value), k ≤ rs.length ∧ u = v ∧ i = .int .i64 k ∧ UR (w.heap.size + 1) wr u ([semi, toh, (T : Int), 1, scan, (O : Int), copied, serial, (rs.length : Int)] ++ imgR y k) ∧ Below (w.heap.size + 1) w2 wr) (fun _ i _ => rs.length - (intOf i).toNat)
  case atStart => exact ⟨0, _, Nat.zero_le _, rfl, rfl, by simpa [imgR] using HU2.out, Below.refl _ _⟩
  case round =>
    obtain ⟨k, u, hk, rfl, rfl, hU, hF⟩ := hrel
    have kr := has_below k2.out hF (by omega)
    have BW : Below w.heap.size w wr := HB2.out.trans (hF.mono (by omega))
    by_cases hlt : k < rs.length
    · have hlt' : (k : Int) < (rs.length : Int) := by omega
      obtain ⟨br, offr, cap', hv, _, lbr, hcr⟩ := HR.out.parts (k := 0) (by omega)
      simp only [Value.slice.injEq] at hv
      obtain ⟨rfl, _, rfl⟩ := hv
      have x0 : wr.cell? ⟨br, offr + k * 2, none⟩ = some (.int .i64 (y (2 * k))) := by rw [BW.cell (p := ⟨br, offr + k * 2, none⟩) lbr, Nat.mul_comm]; exact hcr (2 * k) (by omega)
      have x1 : wr.cell? ⟨br, offr + k * 2 + 1, none⟩ = some (.int .i64 (y (2 * k + 1))) := by rw [BW.cell (p := ⟨br, offr + k * 2 + 1, none⟩) lbr, Nat.mul_comm]; exact hcr (2 * k + 1) (by omega)
      have hl : ([semi, toh, (T : Int), 1, scan, (O : Int), copied, serial, (rs.length : Int)] ++ imgR y k).length ≤ 60 := by simp [imgR_len]; omega
      have hL : [semi, toh, (T : Int), 1, scan, (O : Int), copied, serial, (rs.length : Int)] ++ imgR y (k + 1) = ([semi, toh, (T : Int), 1, scan, (O : Int), copied, serial, (rs.length : Int)] ++ imgR y k) ++ [IntKind.u64.wrap (y (2 * k)), IntKind.u64.wrap (y (2 * k + 1))] := by show [semi, toh, (T : Int), 1, scan, (O : Int), copied, serial, (rs.length : Int)] ++ (imgR y k ++ _) = _; rw [← List.append_assoc]; rfl
      have HL : Hid ([semi, toh, (T : Int), 1, scan, (O : Int), copied, serial, (rs.length : Int)] ++ imgR y (k + 1) = ([semi, toh, (T : Int), 1, scan, (O : Int), copied, serial, (rs.length : Int)] ++ imgR y k) ++ [IntKind.u64.wrap (y (2 * k)), IntKind.u64.wrap (y (2 * k + 1))]) := hL
      have HUr : Hid (UR (w.heap.size + 1) wr u ([semi, toh, (T : Int), 1, scan, (O : Int), copied, serial, (rs.length : Int)] ++ imgR y k)) := hU
      have HFr : Hid (Below (w.heap.size + 1) w2 wr) := hF
      have hs : w.heap.size + 1 ≤ wr.heap.size := by have := hF.size; omega
      generalize [semi, toh, (T : Int), 1, scan, (O : Int), copied, serial, (rs.length : Int)] ++ imgR y k = ys at HUr HL hl
      generalize y (2 * k) = ta at x0 HL
      generalize y (2 * k + 1) = na at x1 HL
      clear hcr hL hU hF BW
      go_wp2_with fail
      have bd : Below wr.heap.size wr wr.drew := (Below.refl _ _).drew
      refine wp_region_held_drew (S := fun V => V.cell? ⟨w.heap.size, 9, none⟩ = some (.slice (some ⟨br, offr, none⟩) rs.length cr) ∧ V.cell? ⟨br, offr + k * 2, none⟩ = some (.int .i64 ta) ∧ V.cell? ⟨br, offr + k * 2 + 1, none⟩ = some (.int .i64 na)) (by kernel_rfl) ⟨kr 9, x0, x1⟩ (fun hHeld => ?_)
      refine tkI 0 44 (u) hHeld rfl ?_
      try simp only [Act.put, List.setIfInBounds_toArray, List.set_cons_zero, List.set_cons_succ]
      refine tkI 1 45 (.pointer (some ⟨w.heap.size, 9, none⟩)) hHeld rfl ?_
      try simp only [Act.put, List.setIfInBounds_toArray, List.set_cons_zero, List.set_cons_succ]
      refine tkI 2 46 (.slice (some ⟨br, offr, none⟩) rs.length cr) hHeld rfl ?_
      try simp only [Act.put, List.setIfInBounds_toArray, List.set_cons_zero, List.set_cons_succ]
      refine tkI 3 47 (.int .i64 (k : Int)) hHeld rfl ?_
      try simp only [Act.put, List.setIfInBounds_toArray, List.set_cons_zero, List.set_cons_succ]
      refine tkI 4 48 (.pointer (some ⟨br, offr + k * 2, none⟩)) hHeld rfl ?_
      try simp only [Act.put, List.setIfInBounds_toArray, List.set_cons_zero, List.set_cons_succ]
      refine tkI 5 49 (.pointer (some ⟨br, offr + k * 2, none⟩)) hHeld rfl ?_
      try simp only [Act.put, List.setIfInBounds_toArray, List.set_cons_zero, List.set_cons_succ]
      refine tkI 6 50 (.int .i64 ta) hHeld rfl ?_
      try simp only [Act.put, List.setIfInBounds_toArray, List.set_cons_zero, List.set_cons_succ]
      refine tkI 7 51 (.int .u64 (IntKind.u64.wrap ta)) hHeld rfl ?_
      try simp only [Act.put, List.setIfInBounds_toArray, List.set_cons_zero, List.set_cons_succ]
      refine tkI 8 52 (.pointer (some ⟨w.heap.size, 9, none⟩)) hHeld rfl ?_
      try simp only [Act.put, List.setIfInBounds_toArray, List.set_cons_zero, List.set_cons_succ]
      refine tkI 9 53 (.slice (some ⟨br, offr, none⟩) rs.length cr) hHeld rfl ?_
      try simp only [Act.put, List.setIfInBounds_toArray, List.set_cons_zero, List.set_cons_succ]
      refine tkI 10 54 (.int .i64 (k : Int)) hHeld rfl ?_
      try simp only [Act.put, List.setIfInBounds_toArray, List.set_cons_zero, List.set_cons_succ]
      refine tkI 11 55 (.pointer (some ⟨br, offr + k * 2, none⟩)) hHeld rfl ?_
      try simp only [Act.put, List.setIfInBounds_toArray, List.set_cons_zero, List.set_cons_succ]
      refine tkI 12 56 (.pointer (some ⟨br, offr + k * 2 + 1, none⟩)) hHeld rfl ?_
      try simp only [Act.put, List.setIfInBounds_toArray, List.set_cons_zero, List.set_cons_succ]
      refine tkI 13 57 (.int .i64 na) hHeld rfl ?_
      try simp only [Act.put, List.setIfInBounds_toArray, List.set_cons_zero, List.set_cons_succ]
      refine tkI 14 58 (.int .u64 (IntKind.u64.wrap na)) hHeld rfl ?_
      try simp only [Act.put, List.setIfInBounds_toArray, List.set_cons_zero, List.set_cons_succ]
      refine wpAnyH_ready (rs := [15]) (by kernel_rfl) (by simp) ?_
      refine AllReadyH.cons (o := { dst := some 59, op := _, type := _, pos := _, after := _, guard := _ }) rfl (fun K hK => ?_) AllReadyH.nil
      go_simp
      obtain ⟨W1, hW1⟩ : ∃ V, V = (wr.alloc (.cells #[.int .u64 (IntKind.u64.wrap ta), .int .u64 (IntKind.u64.wrap na)] 100)).drew := ⟨_, rfl⟩
      rw [← hW1]
      have b1 : Below wr.heap.size wr W1 := by rw [hW1]; exact ((Below.refl _ _).alloc (Nat.le_refl _) _).drew
      have U1 : UR (w.heap.size + 1) W1 u ys := HUr.out.below b1
      have hN : ∀ j v, ([.int .u64 (IntKind.u64.wrap ta), .int .u64 (IntKind.u64.wrap na)] : List Value)[j]? = some v → W1.cell? ((⟨wr.heap.size, 0, none⟩ : Addr).add j) = some v := by rw [hW1]; simpa using cell_two_new wr (.int .u64 (IntKind.u64.wrap ta)) (.int .u64 (IntKind.u64.wrap na)) 100
      have B1 : Below (w.heap.size + 1) w2 W1 := HFr.out.trans (b1.mono hs)
      have h1 := b1.size
      have HK2 : Hid (∀ V, Below (w.heap.size + 1) wr V → V.cell? ⟨w.heap.size, 9, none⟩ = some (.slice (some ⟨br, offr, none⟩) rs.length cr) ∧ V.cell? ⟨br, offr + k * 2, none⟩ = some (.int .i64 ta) ∧ V.cell? ⟨br, offr + k * 2 + 1, none⟩ = some (.int .i64 na)) := fun V hV => ⟨by rw [hV.cell (p := ⟨w.heap.size, 9, none⟩) (by simp)]; exact kr 9, by rw [hV.cell (p := ⟨br, offr + k * 2, none⟩) (by simp; omega)]; exact x0, by rw [hV.cell (p := ⟨br, offr + k * 2 + 1, none⟩) (by simp; omega)]; exact x1⟩
      clear hW1 hHeld bd HUr HFr
      refine hK.out _ _ (HK2.out _ (b1.mono hs)) (fun hHeld => ?_)
      clear hK K
      try simp only [Act.put, List.setIfInBounds_toArray, List.set_cons_zero, List.set_cons_succ]
      refine wpAnyH_ready (rs := [16]) (by kernel_rfl) (by simp) ?_
      refine AllReadyH.cons (o := { dst := some 60, op := _, type := _, pos := _, after := _, guard := _ }) rfl (fun K hK => ?_) AllReadyH.nil
      rw [if_pos (by kernel_rfl)]
      refine wp_append_own _ _ _ 22 rfl (w.heap.size + 1) 100 i0 (.int .u64 0) 1 8 Tryz.underlying22 hi hz0 hz1' hz2 rfl (by decide) u ys.length (ucl ys) rfl U1 ⟨wr.heap.size, 0, none⟩ 2 2 [.int .u64 (IntKind.u64.wrap ta), .int .u64 (IntKind.u64.wrap na)] rfl rfl hN (ints_oneCell .u64 [IntKind.u64.wrap ta, IntKind.u64.wrap na]) (by unfold maxLen; omega) (by omega) (by omega) ?_
      intro v' w3 hown' hgrow hnil
      obtain ⟨R3, B3⟩ := UR.grow (news := [IntKind.u64.wrap ta, IntKind.u64.wrap na]) (by omega) U1 B1 hown' hgrow
      have B13 : Below (w.heap.size + 1) wr w3 := (UR.grow (news := [IntKind.u64.wrap ta, IntKind.u64.wrap na]) (by omega) U1 (b1.mono hs) hown' hgrow).2
      rw [← HL.out] at R3
      have HR3 : Hid (UR (w.heap.size + 1) w3 v' ([semi, toh, (T : Int), 1, scan, (O : Int), copied, serial, (rs.length : Int)] ++ imgR y (k + 1))) := R3
      have HB3 : Hid (Below (w.heap.size + 1) w2 w3) := B3
      clear hown' hgrow hnil R3 B3 U1 hN b1 B1 h1 hHeld
      refine hK.out _ _ (HK2.out _ B13) (fun hHeld => ?_)
      clear hK K B13
      try simp only [Act.put, List.setIfInBounds_toArray, List.set_cons_zero, List.set_cons_succ]
      refine tkI 17 4 v' hHeld rfl ?_
      try simp only [Act.put, List.setIfInBounds_toArray, List.set_cons_zero, List.set_cons_succ]
      refine wpAnyH_done (by kernel_rfl) ?_ _
      clear hHeld HK2 x0 x1 kr HL hl
      go_wp2
      go_roundw
      case rel => exact ⟨k + 1, _, by omega, rfl, by go_num, HR3.out, HB3.out⟩
      case measure => simp [intOf]; omega
    · have hge : (rs.length : Int) ≤ (k : Int) := by omega
      obtain rfl : k = rs.length := by omega
      obtain ⟨X1, hX1⟩ : ∃ X, X = [semi, toh, (T : Int), 1, scan, (O : Int), copied, serial, (rs.length : Int)] ++ imgR y rs.length := ⟨_, rfl⟩
      have hX1l : X1.length ≤ 60 := by rw [hX1]; simp [imgR_len]; omega
      rw [← hX1] at hU
      have HX1 : Hid (X1 = [semi, toh, (T : Int), 1, scan, (O : Int), copied, serial, (rs.length : Int)] ++ imgR y rs.length) := hX1
      have HU : Hid (UR (w.heap.size + 1) wr u X1) := hU
      have HBW : Hid (Below w.heap.size w wr) := BW
      have zr : w.heap.size + 1 ≤ wr.heap.size := by have := hF.size; omega
      have kr' : Hid (∀ i, wr.cell? ⟨w.heap.size, i, none⟩ = (#[.slice (some ⟨b, off, none⟩) ws.length cw, .int .i64 semi, .int .i64 toh, .int .i64 (T : Int), .bool true, .int .i64 scan, .int .i64 (O : Int), .int .i64 copied, .int .i64 serial, .slice ar rs.length cr] : Array Value)[i]?) := kr
      clear hX1 hU hF BW kr HU2 HB2 k2 z2 HR
      have k0 := kr'.out
      go_wp2_with fail
      clear k0
      have bd9 : Below wr.heap.size wr wr.drew := (Below.refl _ _).drew
      have kq9 : ∀ i, wr.drew.cell? ⟨w.heap.size, i, none⟩ = (#[.slice (some ⟨b, off, none⟩) ws.length cw, .int .i64 semi, .int .i64 toh, .int .i64 (T : Int), .bool true, .int .i64 scan, .int .i64 (O : Int), .int .i64 copied, .int .i64 serial, .slice ar rs.length cr] : Array Value)[i]? := has_below kr'.out bd9 zr
      refine wp_region_held_drew (S := fun V => ∀ i, V.cell? ⟨w.heap.size, i, none⟩ = (#[.slice (some ⟨b, off, none⟩) ws.length cw, .int .i64 semi, .int .i64 toh, .int .i64 (T : Int), .bool true, .int .i64 scan, .int .i64 (O : Int), .int .i64 copied, .int .i64 serial, .slice ar rs.length cr] : Array Value)[i]?) (by kernel_rfl) kr'.out (fun hHeld => ?_)
      refine tkI 0 61 (u) hHeld rfl ?_
      try simp only [Act.put, List.setIfInBounds_toArray, List.set_cons_zero, List.set_cons_succ]
      refine tkI 1 62 (.pointer (some ⟨w.heap.size, 0, none⟩)) hHeld rfl ?_
      try simp only [Act.put, List.setIfInBounds_toArray, List.set_cons_zero, List.set_cons_succ]
      refine tkI 2 63 (.slice (some ⟨b, off, none⟩) ws.length cw) hHeld rfl ?_ (by intro V hSw; have q := hSw 0; simp at q; go_simp)
      try simp only [Act.put, List.setIfInBounds_toArray, List.set_cons_zero, List.set_cons_succ]
      refine tkI 3 64 (.agg #[.slice (some ⟨b, off, none⟩) ws.length cw, .int .i64 semi, .int .i64 toh, .int .i64 (T : Int), .bool true, .int .i64 scan, .int .i64 (O : Int), .int .i64 copied, .int .i64 serial, .slice ar rs.length cr]) hHeld rfl ?_ (by intro V hSw; have q0 := hSw 0; have q1 := hSw 1; have q2 := hSw 2; have q3 := hSw 3; have q4 := hSw 4; have q5 := hSw 5; have q6 := hSw 6; have q7 := hSw 7; have q8 := hSw 8; have q9 := hSw 9; simp at q0 q1 q2 q3 q4 q5 q6 q7 q8 q9; go_simp)
      try simp only [Act.put, List.setIfInBounds_toArray, List.set_cons_zero, List.set_cons_succ]
      refine tkI 4 65 (.pointer (some ⟨w.heap.size, 2, none⟩)) hHeld rfl ?_
      try simp only [Act.put, List.setIfInBounds_toArray, List.set_cons_zero, List.set_cons_succ]
      refine tkI 5 66 (.int .i64 toh) hHeld rfl ?_ (by intro V hSw; have q := hSw 2; simp at q; go_simp)
      try simp only [Act.put, List.setIfInBounds_toArray, List.set_cons_zero, List.set_cons_succ]
      refine tkI 7 68 (.pointer (some ⟨w.heap.size, 3, none⟩)) hHeld rfl ?_
      try simp only [Act.put, List.setIfInBounds_toArray, List.set_cons_zero, List.set_cons_succ]
      refine tkI 8 69 (.int .i64 (T : Int)) hHeld rfl ?_ (by intro V hSw; have q := hSw 3; simp at q; go_simp)
      try simp only [Act.put, List.setIfInBounds_toArray, List.set_cons_zero, List.set_cons_succ]
      refine wpAnyH_ready (rs := [6]) (by kernel_rfl) (by simp) ?_
      refine AllReadyH.cons (o := { dst := some 67, op := _, type := _, pos := _, after := _, guard := _ }) rfl (fun K hK => ?_) AllReadyH.nil
      go_simp
      go_at_call 57
      refine (l2Start_is (some ⟨b, off, none⟩) cw ws semi toh (T : Int) true scan (O : Int) copied serial ar cr rs toh S _ (by omega) (by omega) s0 s1 HSe.out).mono ?_
      rintro e wl9 ⟨rfl, bl⟩
      have b1 : Below wr.heap.size wr wl9 := below_next bd9 bl
      have kl : ∀ i, wl9.cell? ⟨w.heap.size, i, none⟩ = (#[.slice (some ⟨b, off, none⟩) ws.length cw, .int .i64 semi, .int .i64 toh, .int .i64 (T : Int), .bool true, .int .i64 scan, .int .i64 (O : Int), .int .i64 copied, .int .i64 serial, .slice ar rs.length cr] : Array Value)[i]? := has_below kr'.out b1 zr
      have U1 : UR (w.heap.size + 1) wl9 (u) X1 := HU.out.below b1
      have HK2 : Hid (∀ V, Below (w.heap.size + 1) wl9 V → ∀ i, V.cell? ⟨w.heap.size, i, none⟩ = (#[.slice (some ⟨b, off, none⟩) ws.length cw, .int .i64 semi, .int .i64 toh, .int .i64 (T : Int), .bool true, .int .i64 scan, .int .i64 (O : Int), .int .i64 copied, .int .i64 serial, .slice ar rs.length cr] : Array Value)[i]?) := fun V hV => has_below kl hV (by simp)
      have hN : ∀ j v, (ucl (cutW ws S T))[j]? = some v → wl9.cell? ((⟨b, off + S, none⟩ : Addr).add j) = some v := fun j v hj => by
        have hjl : j < T - S := by have := (List.getElem?_eq_some_iff.1 hj).1; rw [ucl_len, cutW_len (by omega) (by omega)] at this; exact this
        rw [cutW_at (by omega) hjl] at hj
        have hb2 := (HBW.out.trans (b1.mono (by omega))).cell (p := ⟨b, off + (S + j), none⟩) hb
        rw [HC.out _ (by omega), hj] at hb2
        rw [Addr.add_lit, Nat.add_assoc]
        exact hb2
      have hsl := fun V => slice_img b off ws.length cw S T (by omega) (by omega) (by omega) V
      have hz1 := b1.size
      clear bd9 kq9 bl hHeld
      refine hK.out _ _ kl (fun hHeld => ?_)
      clear hK K kl
      try simp only [Act.put, List.setIfInBounds_toArray, List.set_cons_zero, List.set_cons_succ]
      refine tkI 9 70 (.slice (some ⟨b, off + S, none⟩) (T - S) (cw - S)) hHeld rfl ?_ (by intro V hSw; have h := hsl V; go_simp)
      try simp only [Act.put, List.setIfInBounds_toArray, List.set_cons_zero, List.set_cons_succ]
      refine wpAnyH_ready (rs := [10]) (by kernel_rfl) (by simp) ?_
      refine AllReadyH.cons (o := { dst := some 71, op := _, type := _, pos := _, after := _, guard := _ }) rfl (fun K hK => ?_) AllReadyH.nil
      rw [if_pos (by kernel_rfl)]
      refine wp_append_own _ _ _ 22 rfl (w.heap.size + 1) 100 i0 (.int .u64 0) 1 8 Tryz.underlying22 hi hz0 hz1' hz2 rfl (by decide) (u) X1.length (ucl X1) rfl U1 ⟨b, off + S, none⟩ (T - S) (cw - S) (ucl (cutW ws S T)) rfl (by rw [ucl_len, cutW_len (by omega) (by omega), Nat.mul_one]) hN (ints_oneCell .u64 _) (by unfold maxLen; omega) (by omega) (by omega) ?_
      intro v' w9 hown' hgrow hnil
      obtain ⟨R3, B3⟩ := UR.grow (news := cutW ws S T) (by omega) U1 (b1.mono (by omega)) (by rw [cutW_len (by omega) (by omega)]; exact hown') hgrow
      have B4 : Below (w.heap.size + 1) wl9 w9 := (UR.grow (news := cutW ws S T) (by omega) U1 (Below.refl _ _) (by rw [cutW_len (by omega) (by omega)]; exact hown') hgrow).2
      obtain ⟨X2, hX2⟩ : ∃ X, X = X1 ++ cutW ws S T := ⟨_, rfl⟩
      have hX2l : X2.length ≤ 8060 := by rw [hX2]; simp [cutW_len (show S ≤ T by omega) (show T ≤ ws.length by omega)]; omega
      rw [← hX2] at R3
      have HX2 : Hid (X2 = X1 ++ cutW ws S T) := hX2
      replace HU : Hid (UR (w.heap.size + 1) w9 v' X2) := R3
      replace HBW : Hid (Below w.heap.size w w9) := HBW.out.trans (B3.mono (by omega))
      replace zr : w.heap.size + 1 ≤ w9.heap.size := by have := B3.size; omega
      have k3 := HK2.out _ B4
      replace kr' : Hid (∀ i, w9.cell? ⟨w.heap.size, i, none⟩ = (#[.slice (some ⟨b, off, none⟩) ws.length cw, .int .i64 semi, .int .i64 toh, .int .i64 (T : Int), .bool true, .int .i64 scan, .int .i64 (O : Int), .int .i64 copied, .int .i64 serial, .slice ar rs.length cr] : Array Value)[i]?) := k3
      clear hown' hgrow hnil R3 B3 B4 U1 hN b1 hHeld hX2 hsl HK2 hz1
      refine hK.out _ _ k3 (fun hHeld => ?_)
      clear hK K k3
      try simp only [Act.put, List.setIfInBounds_toArray, List.set_cons_zero, List.set_cons_succ]
      refine tkI 11 4 (v') hHeld rfl ?_
      try simp only [Act.put, List.setIfInBounds_toArray, List.set_cons_zero, List.set_cons_succ]
      refine wpAnyH_done (by kernel_rfl) ?_ _
      clear hHeld
      obtain ⟨v9, hv9⟩ : ∃ v, v = v' := ⟨_, rfl⟩
      rw [← hv9] at HU ⊢
      clear hv9
      have k0 := kr'.out
      go_wp2_with fail
      clear k0
      have bd11 : Below w9.heap.size w9 w9.drew := (Below.refl _ _).drew
      have kq11 : ∀ i, w9.drew.cell? ⟨w.heap.size, i, none⟩ = (#[.slice (some ⟨b, off, none⟩) ws.length cw, .int .i64 semi, .int .i64 toh, .int .i64 (T : Int), .bool true, .int .i64 scan, .int .i64 (O : Int), .int .i64 copied, .int .i64 serial, .slice ar rs.length cr] : Array Value)[i]? := has_below kr'.out bd11 zr
      refine wp_region_held_drew (S := fun V => ∀ i, V.cell? ⟨w.heap.size, i, none⟩ = (#[.slice (some ⟨b, off, none⟩) ws.length cw, .int .i64 semi, .int .i64 toh, .int .i64 (T : Int), .bool true, .int .i64 scan, .int .i64 (O : Int), .int .i64 copied, .int .i64 serial, .slice ar rs.length cr] : Array Value)[i]?) (by kernel_rfl) kr'.out (fun hHeld => ?_)
      refine tkI 0 74 (v9) hHeld rfl ?_
      try simp only [Act.put, List.setIfInBounds_toArray, List.set_cons_zero, List.set_cons_succ]
      refine tkI 1 75 (.pointer (some ⟨w.heap.size, 0, none⟩)) hHeld rfl ?_
      try simp only [Act.put, List.setIfInBounds_toArray, List.set_cons_zero, List.set_cons_succ]
      refine tkI 2 76 (.slice (some ⟨b, off, none⟩) ws.length cw) hHeld rfl ?_ (by intro V hSw; have q := hSw 0; simp at q; go_simp)
      try simp only [Act.put, List.setIfInBounds_toArray, List.set_cons_zero, List.set_cons_succ]
      refine tkI 3 77 (.agg #[.slice (some ⟨b, off, none⟩) ws.length cw, .int .i64 semi, .int .i64 toh, .int .i64 (T : Int), .bool true, .int .i64 scan, .int .i64 (O : Int), .int .i64 copied, .int .i64 serial, .slice ar rs.length cr]) hHeld rfl ?_ (by intro V hSw; have q0 := hSw 0; have q1 := hSw 1; have q2 := hSw 2; have q3 := hSw 3; have q4 := hSw 4; have q5 := hSw 5; have q6 := hSw 6; have q7 := hSw 7; have q8 := hSw 8; have q9 := hSw 9; simp at q0 q1 q2 q3 q4 q5 q6 q7 q8 q9; go_simp)
      try simp only [Act.put, List.setIfInBounds_toArray, List.set_cons_zero, List.set_cons_succ]
      refine tkI 4 78 (.pointer (some ⟨w.heap.size, 2, none⟩)) hHeld rfl ?_
      try simp only [Act.put, List.setIfInBounds_toArray, List.set_cons_zero, List.set_cons_succ]
      refine tkI 5 79 (.int .i64 toh) hHeld rfl ?_ (by intro V hSw; have q := hSw 2; simp at q; go_simp)
      try simp only [Act.put, List.setIfInBounds_toArray, List.set_cons_zero, List.set_cons_succ]
      refine tkI 6 80 (.int .i64 (1 - toh)) hHeld rfl ?_
      try simp only [Act.put, List.setIfInBounds_toArray, List.set_cons_zero, List.set_cons_succ]
      refine tkI 8 82 (.pointer (some ⟨w.heap.size, 6, none⟩)) hHeld rfl ?_
      try simp only [Act.put, List.setIfInBounds_toArray, List.set_cons_zero, List.set_cons_succ]
      refine tkI 9 83 (.int .i64 (O : Int)) hHeld rfl ?_ (by intro V hSw; have q := hSw 6; simp at q; go_simp)
      try simp only [Act.put, List.setIfInBounds_toArray, List.set_cons_zero, List.set_cons_succ]
      refine wpAnyH_ready (rs := [7]) (by kernel_rfl) (by simp) ?_
      refine AllReadyH.cons (o := { dst := some 81, op := _, type := _, pos := _, after := _, guard := _ }) rfl (fun K hK => ?_) AllReadyH.nil
      go_simp
      go_at_call 57
      refine (l2Start_is (some ⟨b, off, none⟩) cw ws semi toh (T : Int) true scan (O : Int) copied serial ar cr rs (1 - toh) F _ (by omega) (by omega) s0 s1 HFe.out).mono ?_
      rintro e wl11 ⟨rfl, bl⟩
      have b1 : Below w9.heap.size w9 wl11 := below_next bd11 bl
      have kl : ∀ i, wl11.cell? ⟨w.heap.size, i, none⟩ = (#[.slice (some ⟨b, off, none⟩) ws.length cw, .int .i64 semi, .int .i64 toh, .int .i64 (T : Int), .bool true, .int .i64 scan, .int .i64 (O : Int), .int .i64 copied, .int .i64 serial, .slice ar rs.length cr] : Array Value)[i]? := has_below kr'.out b1 zr
      have U1 : UR (w.heap.size + 1) wl11 (v9) X2 := HU.out.below b1
      have HK2 : Hid (∀ V, Below (w.heap.size + 1) wl11 V → ∀ i, V.cell? ⟨w.heap.size, i, none⟩ = (#[.slice (some ⟨b, off, none⟩) ws.length cw, .int .i64 semi, .int .i64 toh, .int .i64 (T : Int), .bool true, .int .i64 scan, .int .i64 (O : Int), .int .i64 copied, .int .i64 serial, .slice ar rs.length cr] : Array Value)[i]?) := fun V hV => has_below kl hV (by simp)
      have hN : ∀ j v, (ucl (cutW ws F O))[j]? = some v → wl11.cell? ((⟨b, off + F, none⟩ : Addr).add j) = some v := fun j v hj => by
        have hjl : j < O - F := by have := (List.getElem?_eq_some_iff.1 hj).1; rw [ucl_len, cutW_len (by omega) (by omega)] at this; exact this
        rw [cutW_at (by omega) hjl] at hj
        have hb2 := (HBW.out.trans (b1.mono (by omega))).cell (p := ⟨b, off + (F + j), none⟩) hb
        rw [HC.out _ (by omega), hj] at hb2
        rw [Addr.add_lit, Nat.add_assoc]
        exact hb2
      have hsl := fun V => slice_img b off ws.length cw F O (by omega) (by omega) (by omega) V
      have hz1 := b1.size
      clear bd11 kq11 bl hHeld
      refine hK.out _ _ kl (fun hHeld => ?_)
      clear hK K kl
      try simp only [Act.put, List.setIfInBounds_toArray, List.set_cons_zero, List.set_cons_succ]
      refine tkI 10 84 (.slice (some ⟨b, off + F, none⟩) (O - F) (cw - F)) hHeld rfl ?_ (by intro V hSw; have h := hsl V; go_simp)
      try simp only [Act.put, List.setIfInBounds_toArray, List.set_cons_zero, List.set_cons_succ]
      refine wpAnyH_ready (rs := [11]) (by kernel_rfl) (by simp) ?_
      refine AllReadyH.cons (o := { dst := some 85, op := _, type := _, pos := _, after := _, guard := _ }) rfl (fun K hK => ?_) AllReadyH.nil
      rw [if_pos (by kernel_rfl)]
      refine wp_append_own _ _ _ 22 rfl (w.heap.size + 1) 100 i0 (.int .u64 0) 1 8 Tryz.underlying22 hi hz0 hz1' hz2 rfl (by decide) (v9) X2.length (ucl X2) rfl U1 ⟨b, off + F, none⟩ (O - F) (cw - F) (ucl (cutW ws F O)) rfl (by rw [ucl_len, cutW_len (by omega) (by omega), Nat.mul_one]) hN (ints_oneCell .u64 _) (by unfold maxLen; omega) (by omega) (by omega) ?_
      intro v' w11 hown' hgrow hnil
      obtain ⟨R3, B3⟩ := UR.grow (news := cutW ws F O) (by omega) U1 (b1.mono (by omega)) (by rw [cutW_len (by omega) (by omega)]; exact hown') hgrow
      have B4 : Below (w.heap.size + 1) wl11 w11 := (UR.grow (news := cutW ws F O) (by omega) U1 (Below.refl _ _) (by rw [cutW_len (by omega) (by omega)]; exact hown') hgrow).2
      obtain ⟨X3, hX3⟩ : ∃ X, X = X2 ++ cutW ws F O := ⟨_, rfl⟩
      have hX3l : X3.length ≤ 16060 := by rw [hX3]; simp [cutW_len (show F ≤ O by omega) (show O ≤ ws.length by omega)]; omega
      rw [← hX3] at R3
      have HX3 : Hid (X3 = X2 ++ cutW ws F O) := hX3
      replace HU : Hid (UR (w.heap.size + 1) w11 v' X3) := R3
      replace HBW : Hid (Below w.heap.size w w11) := HBW.out.trans (B3.mono (by omega))
      replace zr : w.heap.size + 1 ≤ w11.heap.size := by have := B3.size; omega
      have k3 := HK2.out _ B4
      replace kr' : Hid (∀ i, w11.cell? ⟨w.heap.size, i, none⟩ = (#[.slice (some ⟨b, off, none⟩) ws.length cw, .int .i64 semi, .int .i64 toh, .int .i64 (T : Int), .bool true, .int .i64 scan, .int .i64 (O : Int), .int .i64 copied, .int .i64 serial, .slice ar rs.length cr] : Array Value)[i]?) := k3
      clear hown' hgrow hnil R3 B3 B4 U1 hN b1 hHeld hX3 hsl HK2 hz1
      refine hK.out _ _ k3 (fun hHeld => ?_)
      clear hK K k3
      try simp only [Act.put, List.setIfInBounds_toArray, List.set_cons_zero, List.set_cons_succ]
      refine tkI 12 4 (v') hHeld rfl ?_
      try simp only [Act.put, List.setIfInBounds_toArray, List.set_cons_zero, List.set_cons_succ]
      refine wpAnyH_done (by kernel_rfl) ?_ _
      clear hHeld
      obtain ⟨va, vc, rfl⟩ := UR.form HU.out
      obtain ⟨XE, hXE⟩ : ∃ X, X = X3 := ⟨_, rfl⟩
      have hle : XE.length ≤ 16060 := by rw [hXE]; omega
      have hle' : (XE.length : Int) ≤ 16060 := by omega
      rw [← hXE] at HU ⊢
      have HXE : Hid (XE = X3) := hXE
      have HXI : Hid (XE = imgW ws semi toh T true scan (O : Int) copied serial y rs.length S T F O) := by
        show XE = _
        rw [HXE.out, HX3.out, HX2.out, HX1.out]
        simp [imgW]
      clear hXE hX3l
      have k0 := kr'.out
      go_wp2_with fail
      clear k0
      go_loopw [6, 7] (fun s i wr => ∃ k : Nat, k ≤ XE.length ∧ i = .int .i64 k ∧ s = .int .u64 (sumU (XE.take k)) ∧ wr = w11) (fun _ i _ => XE.length - (intOf i).toNat)
      case atStart => exact ⟨0, Nat.zero_le _, rfl, rfl, rfl⟩
      case round =>
        obtain ⟨k, hk, rfl, rfl, rfl⟩ := hrel
        by_cases hlt : k < XE.length
        · have hlt' : (k : Int) < (XE.length : Int) := by omega
          obtain ⟨bx, ox, cx, hv, _, lbx, hcx⟩ := (UR.sl HU.out).parts (k := k) hlt
          simp only [Value.slice.injEq] at hv
          obtain ⟨rfl, _, rfl⟩ := hv
          have x0 := hcx k hlt
          have HT : Hid (sumU (XE.take (k + 1)) = IntKind.u64.wrap (sumU (XE.take k) + XE.getD k 0)) := sumU_take hlt
          generalize sumU (XE.take k) = sk at HT
          generalize XE.getD k 0 = xk at HT x0
          clear hcx
          go_wp2
          go_roundw
          case rel => exact ⟨k + 1, by omega, by go_num, by rw [HT.out], by first | rfl | trivial⟩
          case measure => simp [intOf]; omega
        · have hge : (XE.length : Int) ≤ (k : Int) := by omega
          obtain rfl : k = XE.length := by omega
          rw [List.take_length]
          have HE : Hid (XE ++ [sumU XE] = imgL ws semi toh T true scan (O : Int) copied serial y rs.length S T F O) := by show _ = _; rw [HXI.out]; rfl
          generalize sumU XE = sk at HE
          go_wp2_with (at_builtin; refine wpList_append_own _ rfl _ _ 22 rfl (w.heap.size + 1) 100 i0 (.int .u64 0) 1 8 Tryz.underlying22 hi hz0 hz1' hz2 rfl (by decide) (.slice va XE.length vc) XE.length (ucl XE) rfl (UR.alloc HU.out _) ⟨wr.heap.size, 0, none⟩ 1 1 [.int .u64 sk] rfl rfl (cell_one_new _ _ _) (ints_oneCell .u64 [sk]) (by unfold maxLen; omega) (by omega) (by simp; omega) ?_)
          intro v2 w4 hown' hgrow hnil
          obtain ⟨R4, B4⟩ := UR.grow1 (news := [sk]) zr HU.out (Below.refl _ _) hown' hgrow
          rw [HE.out] at R4
          have HR4 : Hid (UR w.heap.size w4 v2 (imgL ws semi toh T true scan (O : Int) copied serial y rs.length S T F O)) := UR.mono R4 (by omega)
          have HB4 : Hid (Below w.heap.size w w4) := HBW.out.trans (B4.mono (by omega))
          clear hown' hgrow hnil R4 B4
          go_wp2
          go_ret
          exact ⟨_, rfl, HR4.out, HB4.out⟩
end Go.Proofs.YtmckcnmlhgpnhaaGreat
