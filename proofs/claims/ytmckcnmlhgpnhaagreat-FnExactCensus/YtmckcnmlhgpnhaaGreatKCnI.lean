/- The program's Census. -/
import Derived.Test.YtmckcnmlhgpnhaaGreatKCnM
import Derived.Test.YtmckcnmlhgpnhaaGreatKAllA
namespace Go.Proofs.YtmckcnmlhgpnhaaGreat
set_option maxRecDepth 20000
open Go.RowKit Go.Maps
set_option linter.unusedSimpArgs false
set_option linter.unusedVariables false

theorem cen_put2 {w w9 : World} {b j : Nat} {f g : Nat → Int} {v1 v2 : Int} (h : w.rowIs b 3 12 (fun i => .int .i64 (f i))) (hb : Below (w.setCell ⟨b, j, none⟩ (.int .i64 v1)).heap.size (w.setCell ⟨b, j, none⟩ (.int .i64 v1)) w9) (h1 : g j = v1) (h2 : g (j + 1) = v2) (h3 : ∀ i, i ≠ j → i ≠ j + 1 → g i = f i) :
    (w9.setCell ⟨b, j + 1, none⟩ (.int .i64 v2)).rowIs b 3 12 (fun i => .int .i64 (g i)) := by
  refine ((((h.set j _).of_block (hb.block _ (h.set j _).lt)).set (j + 1) _).congr fun i _ => ?_)
  by_cases e1 : i = j + 1
  · subst e1; simp [h2]
  · by_cases e2 : i = j
    · subst e2; simp [h1]
    · simp [e1, e2, h3 i e2 e1]
theorem cen_apart2 {w3 w w9 : World} {b j : Nat} {v1 v2 : Value} (h : Apart b (b + 1) w3 w) (hb : Below (w.setCell ⟨b, j, none⟩ v1).heap.size (w.setCell ⟨b, j, none⟩ v1) w9) : Apart b (b + 1) w3 (w9.setCell ⟨b, j + 1, none⟩ v2) :=
  ((h.trans (((Outside.refl b (b + 1) w).setCell (p := ⟨b, j, none⟩) (Nat.le_refl _) (Nat.lt_succ_self _) v1).apart (Nat.le_refl _) (Nat.le_refl _))).trans (below_apart hb (Nat.le_refl _) _ _)).trans (((Outside.refl b (b + 1) w9).setCell (p := ⟨b, j + 1, none⟩) (Nat.le_refl _) (Nat.lt_succ_self _) v2).apart (Nat.le_refl _) (Nat.le_refl _))
set_option maxHeartbeats 8000000 in
theorem implCensus_yes (aw : Option Addr) (cw : Nat) (ws : List Int) (semi toh top : Int) (cyc : Bool) (scan old copied serial : Int) (ar : Option Addr) (cr : Nat) (rs : List (Int × Int)) (y : Nat → Int) (Tr : Nat) (w : World) (S T : Nat) (L : List Nat) (hs : Sl w (.slice aw ws.length cw) ws) (hcw : ws.length ≤ cw) (hn : ws.length ≤ 1048576) (hw : Words64 ws) (hrt : SlF Tr w (.slice ar rs.length cr) rs.length (2 * rs.length) (fun i => .int .i64 (y i))) (hn2 : rs.length ≤ 1048576) (hok : ArOk ws semi toh top cyc scan old copied serial y rs.length) (hS : toh * semi + 1 = S) (hT : top = T) (hTn : T ≤ ws.length) (hL : Chain (nx1 ws serial) S T L) :
    Calls Tryz.prog 31 #[.agg #[.slice aw ws.length cw, .int .i64 semi, .int .i64 toh, .int .i64 top, .bool cyc, .int .i64 scan, .int .i64 old, .int .i64 copied, .int .i64 serial, .slice ar rs.length cr]] w fun e w' => ∃ v, e = .returned v ∧ OwnF w.heap.size w'.heap.size 3 w' v 12 12 (fun i => .int .i64 (cen ws L i)) ∧ Below w.heap.size w w' := by
  obtain ⟨s0, s1, hl, t0, t1, hrl, h1, h2, hold⟩ := num_facts hok.1
  have hm1 := makeInts_c 12 (by omega) (by omega)
  have HPL : Hid (∀ k P, Chain (nx1 ws serial) P T (L.drop k) → k < L.length → P < ws.length ∧ L.getD k 0 = P ∧ 1 ≤ rdK (wordAt ws P) ∧ rdK (wordAt ws P) ≤ 6 ∧ P + (rdS (wordAt ws P)).toNat + 1 ≤ T ∧ Chain (nx1 ws serial) (P + (rdS (wordAt ws P)).toNat + 1) T (L.drop (k + 1))) := fun k P hc hk => by
    rw [List.drop_eq_getElem_cons hk] at hc
    obtain ⟨hx, s, h3, h4, h5⟩ := hc.lt_of_cons
    have h6 := nx1_some h3
    have h7 := (sOk_iff _ _).1 (rd_sOk h6.1)
    unfold SOk at h7
    have hss : s = (rdS (wordAt ws P)).toNat := by have := h6.2; omega
    subst hss
    exact ⟨by omega, by simp [hk, hx], by omega, by omega, h4, h5⟩
  have hLn : L.length ≤ ws.length := Nat.le_trans (chain_length hL) (by omega)
  have HS : Hid (Sl w (.slice aw ws.length cw) ws) := hs
  have HR0 : Hid (SlF w.heap.size w (.slice ar rs.length cr) rs.length (2 * rs.length) (fun i => .int .i64 (y i))) := hrt.here
  have HQ : Hid (ArOk ws semi toh top cyc scan old copied serial y rs.length) := hok
  have HL : Hid (Chain (nx1 ws serial) S T L) := hL
  have hTn' : top ≤ 1048576 := by omega
  have HTT : Hid (top = (T : Int)) := hT
  clear hs hrt hok hL h1 h2 hold hT
  have hfk := field_kind
  go_enter Tryz.func31, Tryz.ntmps31
  go_wp2_with fail
  refine (implArenaOk_at _ _ _ _ _ _ _ _ _ _ _ _ _ _ y w.heap.size _ (HS.out.below (below_first (Below.refl _ _))) hcw hn hw (HR0.out.below (below_first (Below.refl _ _)) (Nat.le_refl _)) hn2).mono ?_
  rintro e w1 ⟨q, rfl, hq, b1⟩
  obtain rfl := hq.2 HQ.out
  have B1 := below_first b1
  have k1 := one_cells b1 (by simp)
  have z1 := size_first b1
  clear b1 hq
  go_upto_region 4 with fail
  clear hm1
  obtain ⟨w2, hw2⟩ : ∃ V, V = w1.alloc (.cells (madeCells #[.int .i64 0] 12) 3) := ⟨_, rfl⟩
  rw [← hw2]
  have b2 : Below w1.heap.size w1 w2 := by rw [hw2]; exact (Below.refl _ _).alloc (Nat.le_refl _) _
  have z2 : w2.heap.size = w1.heap.size + 1 := by rw [hw2]; simp
  have R2 : Hid (w2.rowIs w1.heap.size 3 12 (fun j => .int .i64 (cen ws [] j))) := by
    rw [hw2]
    exact (World.rowIs_made w1 (.int .i64 0) 12 3).congr fun _ _ => rfl
  have B2 := below_next B1 b2
  have k2 := has_below k1 b2 z1
  have z2' : w1.heap.size < w2.heap.size := by omega
  clear hw2 b2 z2 k1 B1
  go_wp2_with fail
  refine (begin_any _ _ semi toh _ cyc scan old copied serial toh _ (by omega) (by omega) (by omega) (by omega)).mono ?_
  rintro e w3 ⟨rfl, b3⟩
  rw [hS]
  have B3 : Hid (Below w.heap.size w w3) := below_next B2 b3
  have k3 : Hid (∀ i, w3.cell? ⟨w.heap.size, i, none⟩ = (#[.slice aw ws.length cw, .int .i64 semi, .int .i64 toh, .int .i64 top, .bool cyc, .int .i64 scan, .int .i64 old, .int .i64 copied, .int .i64 serial, .slice ar rs.length cr] : Array Value)[i]?) := has_below k2 b3 (by omega)
  have R3 : Hid (w3.rowIs w1.heap.size 3 12 (fun j => .int .i64 (cen ws [] j))) := R2.out.of_block (b3.block _ (by omega))
  have z3 : w1.heap.size < w3.heap.size := by have := b3.size; omega
  clear b3 k2 R2 B2 HQ HR0
  go_wp2_with fail
  go_loopw [4, 5] (fun u4 _ wr => ∃ k P : Nat, k ≤ L.length ∧ P ≤ T ∧ u4 = .int .i64 P ∧ Hid (Chain (nx1 ws serial) P T (L.drop k)) ∧ wr.rowIs w1.heap.size 3 12 (fun j => .int .i64 (cen ws (L.take k) j)) ∧ Apart w1.heap.size (w1.heap.size + 1) w3 wr) (fun u4 _ _ => T - (intOf u4).toNat)
  case atStart => exact ⟨0, S, Nat.zero_le _, HL.out.le, rfl, HL.out, R3.out, Apart.refl _ _ _⟩
  case round =>
    obtain ⟨k, P, hk, hPT, rfl, hch, hR, hA⟩ := hrel
    have HB : Hid (Below w1.heap.size w3 wr) := hA.below (Nat.le_refl _) (by omega)
    have BW : Hid (Below w.heap.size w wr) := B3.out.trans (HB.out.mono (by omega))
    have kr := has_below k3.out HB.out z1
    have zr := hA.size
    by_cases hlt : k < L.length
    · obtain ⟨hpl, hp, hK1, hK6, hPn, hcn⟩ := HPL.out k P hch.out hlt
      have HCN : Hid (Chain (nx1 ws serial) (P + (rdS (wordAt ws P)).toNat + 1) T (L.drop (k + 1))) := hcn
      have hlt' : (P : Int) < top := by have := HTT.out; omega
      have HT : Hid (∀ j, cen ws (L.take (k + 1)) j = cenP ws P (cen ws (L.take k)) j) := fun j => by rw [cen_take ws L hlt, hp]
      have HBD : Hid (∀ j, 0 ≤ cen ws (L.take k) j ∧ cen ws (L.take k) j ≤ 257 * 1048576) := fun j => by
        have := cen_bound ws (L.take k) j
        have := List.length_take_le k L
        omega
      have HHD : Hid (∀ W, Below wr.heap.size wr W → _) := fun W (hW : Below wr.heap.size wr W) => headAt_at aw cw ws semi toh top cyc scan old copied serial ar cr rs (P : Int) P W rfl (HS.out.below (below_next BW.out hW)) hn hw hpl
      have HWD : Hid (∀ W, Below w1.heap.size wr W → _) := fun W (hW : Below w1.heap.size wr W) => wordsAt_at aw cw ws semi toh top cyc scan old copied serial ar cr rs (P : Int) P W rfl (HS.out.below (BW.out.trans (hW.mono (by omega)))) hn hw hpl
      have hsb := rdS_bound (wordAt ws P)
      have HR : Hid (wr.rowIs w1.heap.size 3 12 (fun j => .int .i64 (cen ws (L.take k) j))) := hR
      have HA : Hid (Apart w1.heap.size (w1.heap.size + 1) w3 wr) := hA
      have lcr : w1.heap.size < wr.heap.size := by omega
      have lHr : w.heap.size < wr.heap.size := by omega
      have nB : w1.heap.size ≠ w.heap.size := by omega
      obtain ⟨f, hf⟩ : ∃ f, f = cen ws (L.take k) := ⟨_, rfl⟩
      obtain ⟨g, hg⟩ : ∃ g, g = cen ws (L.take (k + 1)) := ⟨_, rfl⟩
      rw [← hf] at HT HBD HR
      rw [← hg] at HT
      have HG : Hid (g = cen ws (L.take (k + 1))) := hg
      unfold cenP at HT
      generalize rdK (wordAt ws P) = K at HT HHD hK1 hK6
      generalize rdS (wordAt ws P) = Sz at HT HHD HWD hsb hPn HCN
      generalize rdN (wordAt ws P) = Nn at HHD
      clear hR hA hf hg hp hch R3 HPL hcn
      rcases (by omega : K = 1 ∨ K = 2 ∨ K = 3 ∨ K = 4 ∨ K = 5 ∨ K = 6) with rfl | rfl | rfl | rfl | rfl | rfl
      · have r0 := HR.out.cell (i := 0) (by omega)
        have r1 := HR.out.cell (i := 1) (by omega)
        have fz := HR.out.frozen
        obtain ⟨p0, p0'⟩ := HBD.out 0
        obtain ⟨p1, p1'⟩ := HBD.out 1
        have e0 := HT.out 0
        have e1 := HT.out 1
        rw [if_pos (by omega)] at e0
        rw [if_neg (by omega), if_pos (by omega)] at e1
        have e2 : ∀ i, i ≠ 0 → i ≠ 0 + 1 → g i = f i := fun i h1 h2 => by rw [HT.out i, if_neg (by omega), if_neg (by omega)]
        have HP : Hid (∀ wh w9, Below wr.heap.size wr wh → Below (wh.setCell ⟨w1.heap.size, 0, none⟩ (.int .i64 (f 0 + 1))).heap.size (wh.setCell ⟨w1.heap.size, 0, none⟩ (.int .i64 (f 0 + 1))) w9 → (w9.setCell ⟨w1.heap.size, 1, none⟩ (.int .i64 (f 1 + Sz + 1))).rowIs w1.heap.size 3 12 (fun i => .int .i64 (cen ws (L.take (k + 1)) i)) ∧ Apart w1.heap.size (w1.heap.size + 1) w3 (w9.setCell ⟨w1.heap.size, 1, none⟩ (.int .i64 (f 1 + Sz + 1)))) := fun wh w9 h1 h2 => by
          have hp := cen_put2 (HR.out.of_block (h1.block _ HR.out.lt)) h2 e0 e1 e2
          rw [HG.out] at hp
          exact ⟨hp, cen_apart2 (HA.out.trans (below_apart h1 (Nat.le_refl _) _ _)) h2⟩
        generalize f 0 = fa at r0 p0 p0' HP
        generalize f 1 = fb at r1 p1 p1' HP
        clear e0 e1 e2 HBD HT HG HA HR
        go_upto_region 9 with (go_at_call 81; refine (HHD.out _ (Below.refl _ _)).mono ?_; rintro e wh ⟨rfl, bh⟩; have HBh : Hid (Below wr.heap.size wr wh) := bh; have rh : wh.cell? ⟨w1.heap.size, 0, none⟩ = some (.int .i64 fa) := (by rw [bh.cell (p := ⟨w1.heap.size, 0, none⟩) lcr]; exact r0); have fh : wh.frozen? ⟨w1.heap.size, 0, none⟩ = false := (by rw [(bcell bh).2 _ _ lcr]; exact fz 0))
        obtain ⟨w8, hw8⟩ : ∃ V, V = wh.setCell ⟨w1.heap.size, 0, none⟩ (.int .i64 (fa + 1)) := ⟨_, rfl⟩
        rw [← hw8]
        have k8 : ∀ i, w8.cell? ⟨w.heap.size, i, none⟩ = (#[.slice aw ws.length cw, .int .i64 semi, .int .i64 toh, .int .i64 top, .bool cyc, .int .i64 scan, .int .i64 old, .int .i64 copied, .int .i64 serial, .slice ar rs.length cr] : Array Value)[i]? := fun i => by rw [hw8, World.cell?_setCell_other _ _ _ _ (fun e => nB (congrArg Addr.block e)), HBh.out.cell (p := ⟨w.heap.size, i, none⟩) lHr]; exact kr i
        have r8 : w8.cell? ⟨w1.heap.size, 1, none⟩ = some (.int .i64 fb) := by rw [hw8, World.cell?_setCell_other _ _ _ _ (fun e => by have := congrArg Addr.off e; simp at this), HBh.out.cell (p := ⟨w1.heap.size, 1, none⟩) lcr]; exact r1
        have f8 : w8.frozen? ⟨w1.heap.size, 1, none⟩ = false := by rw [hw8, World.frozen?_setCell, (bcell HBh.out).2 _ _ lcr]; exact fz 1
        have z8 : w8.heap.size = wh.heap.size := by rw [hw8]; simp
        have lc8 : w1.heap.size < w8.heap.size := by have := HBh.out.size; omega
        have B8 : Hid (Below w1.heap.size wr w8) := by show Below w1.heap.size wr w8; have hx : Below w1.heap.size wr wh := HBh.out.mono (by omega); rw [hw8]; exact hx.setCell (p := ⟨w1.heap.size, 0, none⟩) (Nat.le_refl _) _
        have HW8 : Hid (w8 = wh.setCell ⟨w1.heap.size, 0, none⟩ (.int .i64 (fa + 1))) := hw8
        clear hw8 bh rh fh r0 r1 fz kr
        have KS : ∀ V, Below w8.heap.size w8 V → (∀ i, V.cell? ⟨w.heap.size, i, none⟩ = (#[.slice aw ws.length cw, .int .i64 semi, .int .i64 toh, .int .i64 top, .bool cyc, .int .i64 scan, .int .i64 old, .int .i64 copied, .int .i64 serial, .slice ar rs.length cr] : Array Value)[i]?) := fun V hV => has_below k8 hV (by omega)
        refine wp_region_held_drew (S := fun V => ∀ i, V.cell? ⟨w.heap.size, i, none⟩ = (#[.slice aw ws.length cw, .int .i64 semi, .int .i64 toh, .int .i64 top, .bool cyc, .int .i64 scan, .int .i64 old, .int .i64 copied, .int .i64 serial, .slice ar rs.length cr] : Array Value)[i]?) (by kernel_rfl) (KS _ (Below.refl _ _).drew) (fun hHeld => ?_)
        refine tkC 0 35 (.slice (some ⟨w1.heap.size, 0, none⟩) 12 12) hHeld rfl ?_
        try simp only [Act.put, List.setIfInBounds_toArray, List.set_cons_zero, List.set_cons_succ]
        refine tkC 1 36 (.int .i64 0) hHeld rfl ?_
        try simp only [Act.put, List.setIfInBounds_toArray, List.set_cons_zero, List.set_cons_succ]
        refine tkC 2 37 (.int .i64 1) hHeld rfl ?_ (by intro w hSw; (try dsimp only at hSw); go_simp; rw [IntKind.wrap_i64]; omega)
        try simp only [Act.put, List.setIfInBounds_toArray, List.set_cons_zero, List.set_cons_succ]
        refine tkC 3 38 (.pointer (some ⟨w1.heap.size, 1, none⟩)) hHeld rfl ?_
        try simp only [Act.put, List.setIfInBounds_toArray, List.set_cons_zero, List.set_cons_succ]
        refine tkC 5 40 (.agg #[.slice aw ws.length cw, .int .i64 semi, .int .i64 toh, .int .i64 top, .bool cyc, .int .i64 scan, .int .i64 old, .int .i64 copied, .int .i64 serial, .slice ar rs.length cr]) hHeld rfl ?_ (by intro V hSw; have q0 := hSw 0; have q1 := hSw 1; have q2 := hSw 2; have q3 := hSw 3; have q4 := hSw 4; have q5 := hSw 5; have q6 := hSw 6; have q7 := hSw 7; have q8 := hSw 8; have q9 := hSw 9; simp at q0 q1 q2 q3 q4 q5 q6 q7 q8 q9; go_simp)
        try simp only [Act.put, List.setIfInBounds_toArray, List.set_cons_zero, List.set_cons_succ]
        refine tkC 6 41 (.int .i64 (P : Int)) hHeld rfl ?_
        try simp only [Act.put, List.setIfInBounds_toArray, List.set_cons_zero, List.set_cons_succ]
        have HWB : Hid (∀ V, Below w8.heap.size w8 V → Below w1.heap.size wr V) := fun V hV => B8.out.trans (hV.mono (by omega))
        refine wpAnyH_ready (rs := [4, 7]) (by kernel_rfl) (by simp) ?_
        refine AllReadyH.cons (o := { dst := some 39, op := _, type := _, pos := _, after := _, guard := _ }) rfl (fun KK hKK => ?_) (AllReadyH.cons (o := { dst := some 42, op := _, type := _, pos := _, after := _, guard := _ }) rfl (fun KK hKK => ?_) AllReadyH.nil)
        · go_simp
          have hN := hHeld
          clear hHeld
          refine hKK.out _ _ hN (fun hHeld => ?_)
          clear hKK KK hN
          try simp only [Act.put, List.setIfInBounds_toArray, List.set_cons_zero, List.set_cons_succ]
          refine wpAnyH_ready (rs := [7]) (by kernel_rfl) (by simp) ?_
          refine AllReadyH.cons (o := { dst := some 42, op := _, type := _, pos := _, after := _, guard := _ }) rfl (fun KK hKK => ?_) AllReadyH.nil
          go_simp
          go_at_call 51
          refine (HWD.out _ (HWB.out _ (Below.refl _ _).drew)).mono ?_
          rintro e w9 ⟨rfl, b9⟩
          have b9' : Below w8.heap.size w8 w9 := below_next (Below.refl _ _).drew b9
          have r9 : w9.cell? ⟨w1.heap.size, 1, none⟩ = some (.int .i64 fb) := by rw [b9'.cell (p := ⟨w1.heap.size, 1, none⟩) lc8]; exact r8
          have f9 : w9.frozen? ⟨w1.heap.size, 1, none⟩ = false := by rw [(bcell b9').2 _ _ lc8]; exact f8
          have H9 := KS _ b9'
          clear b9 hHeld
          refine hKK.out _ _ H9 (fun hHeld => ?_)
          clear hKK KK
          try simp only [Act.put, List.setIfInBounds_toArray, List.set_cons_zero, List.set_cons_succ]
          refine tkC 8 43 (.int .i64 (fb + (Sz + 1))) hHeld rfl ?_ (by intro w hSw; (try dsimp only at hSw); go_simp; rw [IntKind.wrap_i64]; omega)
          try simp only [Act.put, List.setIfInBounds_toArray, List.set_cons_zero, List.set_cons_succ]
          refine tkC 9 44 (.pointer (some ⟨w1.heap.size, 1, none⟩)) hHeld rfl ?_
          try simp only [Act.put, List.setIfInBounds_toArray, List.set_cons_zero, List.set_cons_succ]
          refine wpAnyH_ready (rs := [10]) (by kernel_rfl) (by simp) ?_
          refine AllReadyH.cons (o := { dst := none, op := _, type := _, pos := _, after := _, guard := _ }) rfl (fun KK hKK => ?_) AllReadyH.nil
          go_simp
          have hN : ∀ i, (w9.setCell ⟨w1.heap.size, 1, none⟩ (.int .i64 (fb + (Sz + 1)))).cell? ⟨w.heap.size, i, none⟩ = (#[.slice aw ws.length cw, .int .i64 semi, .int .i64 toh, .int .i64 top, .bool cyc, .int .i64 scan, .int .i64 old, .int .i64 copied, .int .i64 serial, .slice ar rs.length cr] : Array Value)[i]? := fun i => by rw [World.cell?_setCell_other _ _ _ _ (fun e => nB (congrArg Addr.block e))]; exact hHeld i
          clear hHeld
          refine hKK.out _ _ hN (fun _ => ?_)
          clear hKK KK
          try simp only [Act.put, List.setIfInBounds_toArray, List.set_cons_zero, List.set_cons_succ]
          refine wpAnyH_done (by kernel_rfl) ?_ _
          obtain ⟨P1, P2⟩ := HP.out wh w9 HBh.out (by rw [← HW8.out]; exact b9')
          rw [show fb + Sz + 1 = fb + (Sz + 1) by omega] at P1 P2
          have B10 : Below w1.heap.size wr (w9.setCell ⟨w1.heap.size, 1, none⟩ (.int .i64 (fb + (Sz + 1)))) := (B8.out.trans (b9'.mono (by omega))).setCell (p := ⟨w1.heap.size, 1, none⟩) (Nat.le_refl _) _
          obtain ⟨w10, hw10⟩ : ∃ V, V = w9.setCell ⟨w1.heap.size, 1, none⟩ (.int .i64 (fb + (Sz + 1))) := ⟨_, rfl⟩
          rw [← hw10] at P1 P2 B10 hN ⊢
          have HP1 : Hid (w10.rowIs w1.heap.size 3 12 (fun i => .int .i64 (cen ws (L.take (k + 1)) i))) := P1
          have HP2 : Hid (Apart w1.heap.size (w1.heap.size + 1) w3 w10) := P2
          have HB10 : Hid (Below w1.heap.size wr w10) := B10
          clear hw10 P1 P2 B10 b9' f9 KS k8 r8 f8 B8 HW8 HWB HP HBh
          go_wp2_with (go_at_call 51; refine (HWD.out _ HB10.out).mono ?_; rintro e w11 ⟨rfl, b11⟩)
          go_roundw
          case rel => exact ⟨k + 1, P + Sz.toNat + 1, by omega, by omega, by first | go_num | (congr 1; omega), HCN, HP1.out.of_block (b11.block _ HP1.out.lt), HP2.out.trans (below_apart b11 (Nat.le_refl _) _ _)⟩
          case measure => simp [intOf]; omega
        · go_simp
          go_at_call 51
          refine (HWD.out _ (HWB.out _ (Below.refl _ _).drew)).mono ?_
          rintro e w9 ⟨rfl, b9⟩
          have b9' : Below w8.heap.size w8 w9 := below_next (Below.refl _ _).drew b9
          have r9 : w9.cell? ⟨w1.heap.size, 1, none⟩ = some (.int .i64 fb) := by rw [b9'.cell (p := ⟨w1.heap.size, 1, none⟩) lc8]; exact r8
          have f9 : w9.frozen? ⟨w1.heap.size, 1, none⟩ = false := by rw [(bcell b9').2 _ _ lc8]; exact f8
          have H9 := KS _ b9'
          clear b9 hHeld
          refine hKK.out _ _ H9 (fun hHeld => ?_)
          clear hKK KK
          try simp only [Act.put, List.setIfInBounds_toArray, List.set_cons_zero, List.set_cons_succ]
          refine wpAnyH_ready (rs := [4]) (by kernel_rfl) (by simp) ?_
          refine AllReadyH.cons (o := { dst := some 39, op := _, type := _, pos := _, after := _, guard := _ }) rfl (fun KK hKK => ?_) AllReadyH.nil
          go_simp
          have hN := hHeld
          clear hHeld
          refine hKK.out _ _ hN (fun hHeld => ?_)
          clear hKK KK hN
          try simp only [Act.put, List.setIfInBounds_toArray, List.set_cons_zero, List.set_cons_succ]
          refine tkC 8 43 (.int .i64 (fb + (Sz + 1))) hHeld rfl ?_ (by intro w hSw; (try dsimp only at hSw); go_simp; rw [IntKind.wrap_i64]; omega)
          try simp only [Act.put, List.setIfInBounds_toArray, List.set_cons_zero, List.set_cons_succ]
          refine tkC 9 44 (.pointer (some ⟨w1.heap.size, 1, none⟩)) hHeld rfl ?_
          try simp only [Act.put, List.setIfInBounds_toArray, List.set_cons_zero, List.set_cons_succ]
          refine wpAnyH_ready (rs := [10]) (by kernel_rfl) (by simp) ?_
          refine AllReadyH.cons (o := { dst := none, op := _, type := _, pos := _, after := _, guard := _ }) rfl (fun KK hKK => ?_) AllReadyH.nil
          go_simp
          have hN : ∀ i, (w9.setCell ⟨w1.heap.size, 1, none⟩ (.int .i64 (fb + (Sz + 1)))).cell? ⟨w.heap.size, i, none⟩ = (#[.slice aw ws.length cw, .int .i64 semi, .int .i64 toh, .int .i64 top, .bool cyc, .int .i64 scan, .int .i64 old, .int .i64 copied, .int .i64 serial, .slice ar rs.length cr] : Array Value)[i]? := fun i => by rw [World.cell?_setCell_other _ _ _ _ (fun e => nB (congrArg Addr.block e))]; exact hHeld i
          clear hHeld
          refine hKK.out _ _ hN (fun _ => ?_)
          clear hKK KK
          try simp only [Act.put, List.setIfInBounds_toArray, List.set_cons_zero, List.set_cons_succ]
          refine wpAnyH_done (by kernel_rfl) ?_ _
          obtain ⟨P1, P2⟩ := HP.out wh w9 HBh.out (by rw [← HW8.out]; exact b9')
          rw [show fb + Sz + 1 = fb + (Sz + 1) by omega] at P1 P2
          have B10 : Below w1.heap.size wr (w9.setCell ⟨w1.heap.size, 1, none⟩ (.int .i64 (fb + (Sz + 1)))) := (B8.out.trans (b9'.mono (by omega))).setCell (p := ⟨w1.heap.size, 1, none⟩) (Nat.le_refl _) _
          obtain ⟨w10, hw10⟩ : ∃ V, V = w9.setCell ⟨w1.heap.size, 1, none⟩ (.int .i64 (fb + (Sz + 1))) := ⟨_, rfl⟩
          rw [← hw10] at P1 P2 B10 hN ⊢
          have HP1 : Hid (w10.rowIs w1.heap.size 3 12 (fun i => .int .i64 (cen ws (L.take (k + 1)) i))) := P1
          have HP2 : Hid (Apart w1.heap.size (w1.heap.size + 1) w3 w10) := P2
          have HB10 : Hid (Below w1.heap.size wr w10) := B10
          clear hw10 P1 P2 B10 b9' f9 KS k8 r8 f8 B8 HW8 HWB HP HBh
          go_wp2_with (go_at_call 51; refine (HWD.out _ HB10.out).mono ?_; rintro e w11 ⟨rfl, b11⟩)
          go_roundw
          case rel => exact ⟨k + 1, P + Sz.toNat + 1, by omega, by omega, by first | go_num | (congr 1; omega), HCN, HP1.out.of_block (b11.block _ HP1.out.lt), HP2.out.trans (below_apart b11 (Nat.le_refl _) _ _)⟩
          case measure => simp [intOf]; omega
      · have r0 := HR.out.cell (i := 2) (by omega)
        have r1 := HR.out.cell (i := 3) (by omega)
        have fz := HR.out.frozen
        obtain ⟨p0, p0'⟩ := HBD.out 2
        obtain ⟨p1, p1'⟩ := HBD.out 3
        have e0 := HT.out 2
        have e1 := HT.out 3
        rw [if_pos (by omega)] at e0
        rw [if_neg (by omega), if_pos (by omega)] at e1
        have e2 : ∀ i, i ≠ 2 → i ≠ 2 + 1 → g i = f i := fun i h1 h2 => by rw [HT.out i, if_neg (by omega), if_neg (by omega)]
        have HP : Hid (∀ wh w9, Below wr.heap.size wr wh → Below (wh.setCell ⟨w1.heap.size, 2, none⟩ (.int .i64 (f 2 + 1))).heap.size (wh.setCell ⟨w1.heap.size, 2, none⟩ (.int .i64 (f 2 + 1))) w9 → (w9.setCell ⟨w1.heap.size, 3, none⟩ (.int .i64 (f 3 + Sz + 1))).rowIs w1.heap.size 3 12 (fun i => .int .i64 (cen ws (L.take (k + 1)) i)) ∧ Apart w1.heap.size (w1.heap.size + 1) w3 (w9.setCell ⟨w1.heap.size, 3, none⟩ (.int .i64 (f 3 + Sz + 1)))) := fun wh w9 h1 h2 => by
          have hp := cen_put2 (HR.out.of_block (h1.block _ HR.out.lt)) h2 e0 e1 e2
          rw [HG.out] at hp
          exact ⟨hp, cen_apart2 (HA.out.trans (below_apart h1 (Nat.le_refl _) _ _)) h2⟩
        generalize f 2 = fa at r0 p0 p0' HP
        generalize f 3 = fb at r1 p1 p1' HP
        clear e0 e1 e2 HBD HT HG HA HR
        go_upto_region 9 with (go_at_call 81; refine (HHD.out _ (Below.refl _ _)).mono ?_; rintro e wh ⟨rfl, bh⟩; have HBh : Hid (Below wr.heap.size wr wh) := bh; have rh : wh.cell? ⟨w1.heap.size, 2, none⟩ = some (.int .i64 fa) := (by rw [bh.cell (p := ⟨w1.heap.size, 2, none⟩) lcr]; exact r0); have fh : wh.frozen? ⟨w1.heap.size, 2, none⟩ = false := (by rw [(bcell bh).2 _ _ lcr]; exact fz 2))
        obtain ⟨w8, hw8⟩ : ∃ V, V = wh.setCell ⟨w1.heap.size, 2, none⟩ (.int .i64 (fa + 1)) := ⟨_, rfl⟩
        rw [← hw8]
        have k8 : ∀ i, w8.cell? ⟨w.heap.size, i, none⟩ = (#[.slice aw ws.length cw, .int .i64 semi, .int .i64 toh, .int .i64 top, .bool cyc, .int .i64 scan, .int .i64 old, .int .i64 copied, .int .i64 serial, .slice ar rs.length cr] : Array Value)[i]? := fun i => by rw [hw8, World.cell?_setCell_other _ _ _ _ (fun e => nB (congrArg Addr.block e)), HBh.out.cell (p := ⟨w.heap.size, i, none⟩) lHr]; exact kr i
        have r8 : w8.cell? ⟨w1.heap.size, 3, none⟩ = some (.int .i64 fb) := by rw [hw8, World.cell?_setCell_other _ _ _ _ (fun e => by have := congrArg Addr.off e; simp at this), HBh.out.cell (p := ⟨w1.heap.size, 3, none⟩) lcr]; exact r1
        have f8 : w8.frozen? ⟨w1.heap.size, 3, none⟩ = false := by rw [hw8, World.frozen?_setCell, (bcell HBh.out).2 _ _ lcr]; exact fz 3
        have z8 : w8.heap.size = wh.heap.size := by rw [hw8]; simp
        have lc8 : w1.heap.size < w8.heap.size := by have := HBh.out.size; omega
        have B8 : Hid (Below w1.heap.size wr w8) := by show Below w1.heap.size wr w8; have hx : Below w1.heap.size wr wh := HBh.out.mono (by omega); rw [hw8]; exact hx.setCell (p := ⟨w1.heap.size, 2, none⟩) (Nat.le_refl _) _
        have HW8 : Hid (w8 = wh.setCell ⟨w1.heap.size, 2, none⟩ (.int .i64 (fa + 1))) := hw8
        clear hw8 bh rh fh r0 r1 fz kr
        have KS : ∀ V, Below w8.heap.size w8 V → (∀ i, V.cell? ⟨w.heap.size, i, none⟩ = (#[.slice aw ws.length cw, .int .i64 semi, .int .i64 toh, .int .i64 top, .bool cyc, .int .i64 scan, .int .i64 old, .int .i64 copied, .int .i64 serial, .slice ar rs.length cr] : Array Value)[i]?) := fun V hV => has_below k8 hV (by omega)
        refine wp_region_held_drew (S := fun V => ∀ i, V.cell? ⟨w.heap.size, i, none⟩ = (#[.slice aw ws.length cw, .int .i64 semi, .int .i64 toh, .int .i64 top, .bool cyc, .int .i64 scan, .int .i64 old, .int .i64 copied, .int .i64 serial, .slice ar rs.length cr] : Array Value)[i]?) (by kernel_rfl) (KS _ (Below.refl _ _).drew) (fun hHeld => ?_)
        refine tkC 0 35 (.slice (some ⟨w1.heap.size, 0, none⟩) 12 12) hHeld rfl ?_
        try simp only [Act.put, List.setIfInBounds_toArray, List.set_cons_zero, List.set_cons_succ]
        refine tkC 1 36 (.int .i64 2) hHeld rfl ?_
        try simp only [Act.put, List.setIfInBounds_toArray, List.set_cons_zero, List.set_cons_succ]
        refine tkC 2 37 (.int .i64 3) hHeld rfl ?_ (by intro w hSw; (try dsimp only at hSw); go_simp; rw [IntKind.wrap_i64]; omega)
        try simp only [Act.put, List.setIfInBounds_toArray, List.set_cons_zero, List.set_cons_succ]
        refine tkC 3 38 (.pointer (some ⟨w1.heap.size, 3, none⟩)) hHeld rfl ?_
        try simp only [Act.put, List.setIfInBounds_toArray, List.set_cons_zero, List.set_cons_succ]
        refine tkC 5 40 (.agg #[.slice aw ws.length cw, .int .i64 semi, .int .i64 toh, .int .i64 top, .bool cyc, .int .i64 scan, .int .i64 old, .int .i64 copied, .int .i64 serial, .slice ar rs.length cr]) hHeld rfl ?_ (by intro V hSw; have q0 := hSw 0; have q1 := hSw 1; have q2 := hSw 2; have q3 := hSw 3; have q4 := hSw 4; have q5 := hSw 5; have q6 := hSw 6; have q7 := hSw 7; have q8 := hSw 8; have q9 := hSw 9; simp at q0 q1 q2 q3 q4 q5 q6 q7 q8 q9; go_simp)
        try simp only [Act.put, List.setIfInBounds_toArray, List.set_cons_zero, List.set_cons_succ]
        refine tkC 6 41 (.int .i64 (P : Int)) hHeld rfl ?_
        try simp only [Act.put, List.setIfInBounds_toArray, List.set_cons_zero, List.set_cons_succ]
        have HWB : Hid (∀ V, Below w8.heap.size w8 V → Below w1.heap.size wr V) := fun V hV => B8.out.trans (hV.mono (by omega))
        refine wpAnyH_ready (rs := [4, 7]) (by kernel_rfl) (by simp) ?_
        refine AllReadyH.cons (o := { dst := some 39, op := _, type := _, pos := _, after := _, guard := _ }) rfl (fun KK hKK => ?_) (AllReadyH.cons (o := { dst := some 42, op := _, type := _, pos := _, after := _, guard := _ }) rfl (fun KK hKK => ?_) AllReadyH.nil)
        · go_simp
          have hN := hHeld
          clear hHeld
          refine hKK.out _ _ hN (fun hHeld => ?_)
          clear hKK KK hN
          try simp only [Act.put, List.setIfInBounds_toArray, List.set_cons_zero, List.set_cons_succ]
          refine wpAnyH_ready (rs := [7]) (by kernel_rfl) (by simp) ?_
          refine AllReadyH.cons (o := { dst := some 42, op := _, type := _, pos := _, after := _, guard := _ }) rfl (fun KK hKK => ?_) AllReadyH.nil
          go_simp
          go_at_call 51
          refine (HWD.out _ (HWB.out _ (Below.refl _ _).drew)).mono ?_
          rintro e w9 ⟨rfl, b9⟩
          have b9' : Below w8.heap.size w8 w9 := below_next (Below.refl _ _).drew b9
          have r9 : w9.cell? ⟨w1.heap.size, 3, none⟩ = some (.int .i64 fb) := by rw [b9'.cell (p := ⟨w1.heap.size, 3, none⟩) lc8]; exact r8
          have f9 : w9.frozen? ⟨w1.heap.size, 3, none⟩ = false := by rw [(bcell b9').2 _ _ lc8]; exact f8
          have H9 := KS _ b9'
          clear b9 hHeld
          refine hKK.out _ _ H9 (fun hHeld => ?_)
          clear hKK KK
          try simp only [Act.put, List.setIfInBounds_toArray, List.set_cons_zero, List.set_cons_succ]
          refine tkC 8 43 (.int .i64 (fb + (Sz + 1))) hHeld rfl ?_ (by intro w hSw; (try dsimp only at hSw); go_simp; rw [IntKind.wrap_i64]; omega)
          try simp only [Act.put, List.setIfInBounds_toArray, List.set_cons_zero, List.set_cons_succ]
          refine tkC 9 44 (.pointer (some ⟨w1.heap.size, 3, none⟩)) hHeld rfl ?_
          try simp only [Act.put, List.setIfInBounds_toArray, List.set_cons_zero, List.set_cons_succ]
          refine wpAnyH_ready (rs := [10]) (by kernel_rfl) (by simp) ?_
          refine AllReadyH.cons (o := { dst := none, op := _, type := _, pos := _, after := _, guard := _ }) rfl (fun KK hKK => ?_) AllReadyH.nil
          go_simp
          have hN : ∀ i, (w9.setCell ⟨w1.heap.size, 3, none⟩ (.int .i64 (fb + (Sz + 1)))).cell? ⟨w.heap.size, i, none⟩ = (#[.slice aw ws.length cw, .int .i64 semi, .int .i64 toh, .int .i64 top, .bool cyc, .int .i64 scan, .int .i64 old, .int .i64 copied, .int .i64 serial, .slice ar rs.length cr] : Array Value)[i]? := fun i => by rw [World.cell?_setCell_other _ _ _ _ (fun e => nB (congrArg Addr.block e))]; exact hHeld i
          clear hHeld
          refine hKK.out _ _ hN (fun _ => ?_)
          clear hKK KK
          try simp only [Act.put, List.setIfInBounds_toArray, List.set_cons_zero, List.set_cons_succ]
          refine wpAnyH_done (by kernel_rfl) ?_ _
          obtain ⟨P1, P2⟩ := HP.out wh w9 HBh.out (by rw [← HW8.out]; exact b9')
          rw [show fb + Sz + 1 = fb + (Sz + 1) by omega] at P1 P2
          have B10 : Below w1.heap.size wr (w9.setCell ⟨w1.heap.size, 3, none⟩ (.int .i64 (fb + (Sz + 1)))) := (B8.out.trans (b9'.mono (by omega))).setCell (p := ⟨w1.heap.size, 3, none⟩) (Nat.le_refl _) _
          obtain ⟨w10, hw10⟩ : ∃ V, V = w9.setCell ⟨w1.heap.size, 3, none⟩ (.int .i64 (fb + (Sz + 1))) := ⟨_, rfl⟩
          rw [← hw10] at P1 P2 B10 hN ⊢
          have HP1 : Hid (w10.rowIs w1.heap.size 3 12 (fun i => .int .i64 (cen ws (L.take (k + 1)) i))) := P1
          have HP2 : Hid (Apart w1.heap.size (w1.heap.size + 1) w3 w10) := P2
          have HB10 : Hid (Below w1.heap.size wr w10) := B10
          clear hw10 P1 P2 B10 b9' f9 KS k8 r8 f8 B8 HW8 HWB HP HBh
          go_wp2_with (go_at_call 51; refine (HWD.out _ HB10.out).mono ?_; rintro e w11 ⟨rfl, b11⟩)
          go_roundw
          case rel => exact ⟨k + 1, P + Sz.toNat + 1, by omega, by omega, by first | go_num | (congr 1; omega), HCN, HP1.out.of_block (b11.block _ HP1.out.lt), HP2.out.trans (below_apart b11 (Nat.le_refl _) _ _)⟩
          case measure => simp [intOf]; omega
        · go_simp
          go_at_call 51
          refine (HWD.out _ (HWB.out _ (Below.refl _ _).drew)).mono ?_
          rintro e w9 ⟨rfl, b9⟩
          have b9' : Below w8.heap.size w8 w9 := below_next (Below.refl _ _).drew b9
          have r9 : w9.cell? ⟨w1.heap.size, 3, none⟩ = some (.int .i64 fb) := by rw [b9'.cell (p := ⟨w1.heap.size, 3, none⟩) lc8]; exact r8
          have f9 : w9.frozen? ⟨w1.heap.size, 3, none⟩ = false := by rw [(bcell b9').2 _ _ lc8]; exact f8
          have H9 := KS _ b9'
          clear b9 hHeld
          refine hKK.out _ _ H9 (fun hHeld => ?_)
          clear hKK KK
          try simp only [Act.put, List.setIfInBounds_toArray, List.set_cons_zero, List.set_cons_succ]
          refine wpAnyH_ready (rs := [4]) (by kernel_rfl) (by simp) ?_
          refine AllReadyH.cons (o := { dst := some 39, op := _, type := _, pos := _, after := _, guard := _ }) rfl (fun KK hKK => ?_) AllReadyH.nil
          go_simp
          have hN := hHeld
          clear hHeld
          refine hKK.out _ _ hN (fun hHeld => ?_)
          clear hKK KK hN
          try simp only [Act.put, List.setIfInBounds_toArray, List.set_cons_zero, List.set_cons_succ]
          refine tkC 8 43 (.int .i64 (fb + (Sz + 1))) hHeld rfl ?_ (by intro w hSw; (try dsimp only at hSw); go_simp; rw [IntKind.wrap_i64]; omega)
          try simp only [Act.put, List.setIfInBounds_toArray, List.set_cons_zero, List.set_cons_succ]
          refine tkC 9 44 (.pointer (some ⟨w1.heap.size, 3, none⟩)) hHeld rfl ?_
          try simp only [Act.put, List.setIfInBounds_toArray, List.set_cons_zero, List.set_cons_succ]
          refine wpAnyH_ready (rs := [10]) (by kernel_rfl) (by simp) ?_
          refine AllReadyH.cons (o := { dst := none, op := _, type := _, pos := _, after := _, guard := _ }) rfl (fun KK hKK => ?_) AllReadyH.nil
          go_simp
          have hN : ∀ i, (w9.setCell ⟨w1.heap.size, 3, none⟩ (.int .i64 (fb + (Sz + 1)))).cell? ⟨w.heap.size, i, none⟩ = (#[.slice aw ws.length cw, .int .i64 semi, .int .i64 toh, .int .i64 top, .bool cyc, .int .i64 scan, .int .i64 old, .int .i64 copied, .int .i64 serial, .slice ar rs.length cr] : Array Value)[i]? := fun i => by rw [World.cell?_setCell_other _ _ _ _ (fun e => nB (congrArg Addr.block e))]; exact hHeld i
          clear hHeld
          refine hKK.out _ _ hN (fun _ => ?_)
          clear hKK KK
          try simp only [Act.put, List.setIfInBounds_toArray, List.set_cons_zero, List.set_cons_succ]
          refine wpAnyH_done (by kernel_rfl) ?_ _
          obtain ⟨P1, P2⟩ := HP.out wh w9 HBh.out (by rw [← HW8.out]; exact b9')
          rw [show fb + Sz + 1 = fb + (Sz + 1) by omega] at P1 P2
          have B10 : Below w1.heap.size wr (w9.setCell ⟨w1.heap.size, 3, none⟩ (.int .i64 (fb + (Sz + 1)))) := (B8.out.trans (b9'.mono (by omega))).setCell (p := ⟨w1.heap.size, 3, none⟩) (Nat.le_refl _) _
          obtain ⟨w10, hw10⟩ : ∃ V, V = w9.setCell ⟨w1.heap.size, 3, none⟩ (.int .i64 (fb + (Sz + 1))) := ⟨_, rfl⟩
          rw [← hw10] at P1 P2 B10 hN ⊢
          have HP1 : Hid (w10.rowIs w1.heap.size 3 12 (fun i => .int .i64 (cen ws (L.take (k + 1)) i))) := P1
          have HP2 : Hid (Apart w1.heap.size (w1.heap.size + 1) w3 w10) := P2
          have HB10 : Hid (Below w1.heap.size wr w10) := B10
          clear hw10 P1 P2 B10 b9' f9 KS k8 r8 f8 B8 HW8 HWB HP HBh
          go_wp2_with (go_at_call 51; refine (HWD.out _ HB10.out).mono ?_; rintro e w11 ⟨rfl, b11⟩)
          go_roundw
          case rel => exact ⟨k + 1, P + Sz.toNat + 1, by omega, by omega, by first | go_num | (congr 1; omega), HCN, HP1.out.of_block (b11.block _ HP1.out.lt), HP2.out.trans (below_apart b11 (Nat.le_refl _) _ _)⟩
          case measure => simp [intOf]; omega
      · have r0 := HR.out.cell (i := 4) (by omega)
        have r1 := HR.out.cell (i := 5) (by omega)
        have fz := HR.out.frozen
        obtain ⟨p0, p0'⟩ := HBD.out 4
        obtain ⟨p1, p1'⟩ := HBD.out 5
        have e0 := HT.out 4
        have e1 := HT.out 5
        rw [if_pos (by omega)] at e0
        rw [if_neg (by omega), if_pos (by omega)] at e1
        have e2 : ∀ i, i ≠ 4 → i ≠ 4 + 1 → g i = f i := fun i h1 h2 => by rw [HT.out i, if_neg (by omega), if_neg (by omega)]
        have HP : Hid (∀ wh w9, Below wr.heap.size wr wh → Below (wh.setCell ⟨w1.heap.size, 4, none⟩ (.int .i64 (f 4 + 1))).heap.size (wh.setCell ⟨w1.heap.size, 4, none⟩ (.int .i64 (f 4 + 1))) w9 → (w9.setCell ⟨w1.heap.size, 5, none⟩ (.int .i64 (f 5 + Sz + 1))).rowIs w1.heap.size 3 12 (fun i => .int .i64 (cen ws (L.take (k + 1)) i)) ∧ Apart w1.heap.size (w1.heap.size + 1) w3 (w9.setCell ⟨w1.heap.size, 5, none⟩ (.int .i64 (f 5 + Sz + 1)))) := fun wh w9 h1 h2 => by
          have hp := cen_put2 (HR.out.of_block (h1.block _ HR.out.lt)) h2 e0 e1 e2
          rw [HG.out] at hp
          exact ⟨hp, cen_apart2 (HA.out.trans (below_apart h1 (Nat.le_refl _) _ _)) h2⟩
        generalize f 4 = fa at r0 p0 p0' HP
        generalize f 5 = fb at r1 p1 p1' HP
        clear e0 e1 e2 HBD HT HG HA HR
        go_upto_region 9 with (go_at_call 81; refine (HHD.out _ (Below.refl _ _)).mono ?_; rintro e wh ⟨rfl, bh⟩; have HBh : Hid (Below wr.heap.size wr wh) := bh; have rh : wh.cell? ⟨w1.heap.size, 4, none⟩ = some (.int .i64 fa) := (by rw [bh.cell (p := ⟨w1.heap.size, 4, none⟩) lcr]; exact r0); have fh : wh.frozen? ⟨w1.heap.size, 4, none⟩ = false := (by rw [(bcell bh).2 _ _ lcr]; exact fz 4))
        obtain ⟨w8, hw8⟩ : ∃ V, V = wh.setCell ⟨w1.heap.size, 4, none⟩ (.int .i64 (fa + 1)) := ⟨_, rfl⟩
        rw [← hw8]
        have k8 : ∀ i, w8.cell? ⟨w.heap.size, i, none⟩ = (#[.slice aw ws.length cw, .int .i64 semi, .int .i64 toh, .int .i64 top, .bool cyc, .int .i64 scan, .int .i64 old, .int .i64 copied, .int .i64 serial, .slice ar rs.length cr] : Array Value)[i]? := fun i => by rw [hw8, World.cell?_setCell_other _ _ _ _ (fun e => nB (congrArg Addr.block e)), HBh.out.cell (p := ⟨w.heap.size, i, none⟩) lHr]; exact kr i
        have r8 : w8.cell? ⟨w1.heap.size, 5, none⟩ = some (.int .i64 fb) := by rw [hw8, World.cell?_setCell_other _ _ _ _ (fun e => by have := congrArg Addr.off e; simp at this), HBh.out.cell (p := ⟨w1.heap.size, 5, none⟩) lcr]; exact r1
        have f8 : w8.frozen? ⟨w1.heap.size, 5, none⟩ = false := by rw [hw8, World.frozen?_setCell, (bcell HBh.out).2 _ _ lcr]; exact fz 5
        have z8 : w8.heap.size = wh.heap.size := by rw [hw8]; simp
        have lc8 : w1.heap.size < w8.heap.size := by have := HBh.out.size; omega
        have B8 : Hid (Below w1.heap.size wr w8) := by show Below w1.heap.size wr w8; have hx : Below w1.heap.size wr wh := HBh.out.mono (by omega); rw [hw8]; exact hx.setCell (p := ⟨w1.heap.size, 4, none⟩) (Nat.le_refl _) _
        have HW8 : Hid (w8 = wh.setCell ⟨w1.heap.size, 4, none⟩ (.int .i64 (fa + 1))) := hw8
        clear hw8 bh rh fh r0 r1 fz kr
        have KS : ∀ V, Below w8.heap.size w8 V → (∀ i, V.cell? ⟨w.heap.size, i, none⟩ = (#[.slice aw ws.length cw, .int .i64 semi, .int .i64 toh, .int .i64 top, .bool cyc, .int .i64 scan, .int .i64 old, .int .i64 copied, .int .i64 serial, .slice ar rs.length cr] : Array Value)[i]?) := fun V hV => has_below k8 hV (by omega)
        refine wp_region_held_drew (S := fun V => ∀ i, V.cell? ⟨w.heap.size, i, none⟩ = (#[.slice aw ws.length cw, .int .i64 semi, .int .i64 toh, .int .i64 top, .bool cyc, .int .i64 scan, .int .i64 old, .int .i64 copied, .int .i64 serial, .slice ar rs.length cr] : Array Value)[i]?) (by kernel_rfl) (KS _ (Below.refl _ _).drew) (fun hHeld => ?_)
        refine tkC 0 35 (.slice (some ⟨w1.heap.size, 0, none⟩) 12 12) hHeld rfl ?_
        try simp only [Act.put, List.setIfInBounds_toArray, List.set_cons_zero, List.set_cons_succ]
        refine tkC 1 36 (.int .i64 4) hHeld rfl ?_
        try simp only [Act.put, List.setIfInBounds_toArray, List.set_cons_zero, List.set_cons_succ]
        refine tkC 2 37 (.int .i64 5) hHeld rfl ?_ (by intro w hSw; (try dsimp only at hSw); go_simp; rw [IntKind.wrap_i64]; omega)
        try simp only [Act.put, List.setIfInBounds_toArray, List.set_cons_zero, List.set_cons_succ]
        refine tkC 3 38 (.pointer (some ⟨w1.heap.size, 5, none⟩)) hHeld rfl ?_
        try simp only [Act.put, List.setIfInBounds_toArray, List.set_cons_zero, List.set_cons_succ]
        refine tkC 5 40 (.agg #[.slice aw ws.length cw, .int .i64 semi, .int .i64 toh, .int .i64 top, .bool cyc, .int .i64 scan, .int .i64 old, .int .i64 copied, .int .i64 serial, .slice ar rs.length cr]) hHeld rfl ?_ (by intro V hSw; have q0 := hSw 0; have q1 := hSw 1; have q2 := hSw 2; have q3 := hSw 3; have q4 := hSw 4; have q5 := hSw 5; have q6 := hSw 6; have q7 := hSw 7; have q8 := hSw 8; have q9 := hSw 9; simp at q0 q1 q2 q3 q4 q5 q6 q7 q8 q9; go_simp)
        try simp only [Act.put, List.setIfInBounds_toArray, List.set_cons_zero, List.set_cons_succ]
        refine tkC 6 41 (.int .i64 (P : Int)) hHeld rfl ?_
        try simp only [Act.put, List.setIfInBounds_toArray, List.set_cons_zero, List.set_cons_succ]
        have HWB : Hid (∀ V, Below w8.heap.size w8 V → Below w1.heap.size wr V) := fun V hV => B8.out.trans (hV.mono (by omega))
        refine wpAnyH_ready (rs := [4, 7]) (by kernel_rfl) (by simp) ?_
        refine AllReadyH.cons (o := { dst := some 39, op := _, type := _, pos := _, after := _, guard := _ }) rfl (fun KK hKK => ?_) (AllReadyH.cons (o := { dst := some 42, op := _, type := _, pos := _, after := _, guard := _ }) rfl (fun KK hKK => ?_) AllReadyH.nil)
        · go_simp
          have hN := hHeld
          clear hHeld
          refine hKK.out _ _ hN (fun hHeld => ?_)
          clear hKK KK hN
          try simp only [Act.put, List.setIfInBounds_toArray, List.set_cons_zero, List.set_cons_succ]
          refine wpAnyH_ready (rs := [7]) (by kernel_rfl) (by simp) ?_
          refine AllReadyH.cons (o := { dst := some 42, op := _, type := _, pos := _, after := _, guard := _ }) rfl (fun KK hKK => ?_) AllReadyH.nil
          go_simp
          go_at_call 51
          refine (HWD.out _ (HWB.out _ (Below.refl _ _).drew)).mono ?_
          rintro e w9 ⟨rfl, b9⟩
          have b9' : Below w8.heap.size w8 w9 := below_next (Below.refl _ _).drew b9
          have r9 : w9.cell? ⟨w1.heap.size, 5, none⟩ = some (.int .i64 fb) := by rw [b9'.cell (p := ⟨w1.heap.size, 5, none⟩) lc8]; exact r8
          have f9 : w9.frozen? ⟨w1.heap.size, 5, none⟩ = false := by rw [(bcell b9').2 _ _ lc8]; exact f8
          have H9 := KS _ b9'
          clear b9 hHeld
          refine hKK.out _ _ H9 (fun hHeld => ?_)
          clear hKK KK
          try simp only [Act.put, List.setIfInBounds_toArray, List.set_cons_zero, List.set_cons_succ]
          refine tkC 8 43 (.int .i64 (fb + (Sz + 1))) hHeld rfl ?_ (by intro w hSw; (try dsimp only at hSw); go_simp; rw [IntKind.wrap_i64]; omega)
          try simp only [Act.put, List.setIfInBounds_toArray, List.set_cons_zero, List.set_cons_succ]
          refine tkC 9 44 (.pointer (some ⟨w1.heap.size, 5, none⟩)) hHeld rfl ?_
          try simp only [Act.put, List.setIfInBounds_toArray, List.set_cons_zero, List.set_cons_succ]
          refine wpAnyH_ready (rs := [10]) (by kernel_rfl) (by simp) ?_
          refine AllReadyH.cons (o := { dst := none, op := _, type := _, pos := _, after := _, guard := _ }) rfl (fun KK hKK => ?_) AllReadyH.nil
          go_simp
          have hN : ∀ i, (w9.setCell ⟨w1.heap.size, 5, none⟩ (.int .i64 (fb + (Sz + 1)))).cell? ⟨w.heap.size, i, none⟩ = (#[.slice aw ws.length cw, .int .i64 semi, .int .i64 toh, .int .i64 top, .bool cyc, .int .i64 scan, .int .i64 old, .int .i64 copied, .int .i64 serial, .slice ar rs.length cr] : Array Value)[i]? := fun i => by rw [World.cell?_setCell_other _ _ _ _ (fun e => nB (congrArg Addr.block e))]; exact hHeld i
          clear hHeld
          refine hKK.out _ _ hN (fun _ => ?_)
          clear hKK KK
          try simp only [Act.put, List.setIfInBounds_toArray, List.set_cons_zero, List.set_cons_succ]
          refine wpAnyH_done (by kernel_rfl) ?_ _
          obtain ⟨P1, P2⟩ := HP.out wh w9 HBh.out (by rw [← HW8.out]; exact b9')
          rw [show fb + Sz + 1 = fb + (Sz + 1) by omega] at P1 P2
          have B10 : Below w1.heap.size wr (w9.setCell ⟨w1.heap.size, 5, none⟩ (.int .i64 (fb + (Sz + 1)))) := (B8.out.trans (b9'.mono (by omega))).setCell (p := ⟨w1.heap.size, 5, none⟩) (Nat.le_refl _) _
          obtain ⟨w10, hw10⟩ : ∃ V, V = w9.setCell ⟨w1.heap.size, 5, none⟩ (.int .i64 (fb + (Sz + 1))) := ⟨_, rfl⟩
          rw [← hw10] at P1 P2 B10 hN ⊢
          have HP1 : Hid (w10.rowIs w1.heap.size 3 12 (fun i => .int .i64 (cen ws (L.take (k + 1)) i))) := P1
          have HP2 : Hid (Apart w1.heap.size (w1.heap.size + 1) w3 w10) := P2
          have HB10 : Hid (Below w1.heap.size wr w10) := B10
          clear hw10 P1 P2 B10 b9' f9 KS k8 r8 f8 B8 HW8 HWB HP HBh
          go_wp2_with (go_at_call 51; refine (HWD.out _ HB10.out).mono ?_; rintro e w11 ⟨rfl, b11⟩)
          go_roundw
          case rel => exact ⟨k + 1, P + Sz.toNat + 1, by omega, by omega, by first | go_num | (congr 1; omega), HCN, HP1.out.of_block (b11.block _ HP1.out.lt), HP2.out.trans (below_apart b11 (Nat.le_refl _) _ _)⟩
          case measure => simp [intOf]; omega
        · go_simp
          go_at_call 51
          refine (HWD.out _ (HWB.out _ (Below.refl _ _).drew)).mono ?_
          rintro e w9 ⟨rfl, b9⟩
          have b9' : Below w8.heap.size w8 w9 := below_next (Below.refl _ _).drew b9
          have r9 : w9.cell? ⟨w1.heap.size, 5, none⟩ = some (.int .i64 fb) := by rw [b9'.cell (p := ⟨w1.heap.size, 5, none⟩) lc8]; exact r8
          have f9 : w9.frozen? ⟨w1.heap.size, 5, none⟩ = false := by rw [(bcell b9').2 _ _ lc8]; exact f8
          have H9 := KS _ b9'
          clear b9 hHeld
          refine hKK.out _ _ H9 (fun hHeld => ?_)
          clear hKK KK
          try simp only [Act.put, List.setIfInBounds_toArray, List.set_cons_zero, List.set_cons_succ]
          refine wpAnyH_ready (rs := [4]) (by kernel_rfl) (by simp) ?_
          refine AllReadyH.cons (o := { dst := some 39, op := _, type := _, pos := _, after := _, guard := _ }) rfl (fun KK hKK => ?_) AllReadyH.nil
          go_simp
          have hN := hHeld
          clear hHeld
          refine hKK.out _ _ hN (fun hHeld => ?_)
          clear hKK KK hN
          try simp only [Act.put, List.setIfInBounds_toArray, List.set_cons_zero, List.set_cons_succ]
          refine tkC 8 43 (.int .i64 (fb + (Sz + 1))) hHeld rfl ?_ (by intro w hSw; (try dsimp only at hSw); go_simp; rw [IntKind.wrap_i64]; omega)
          try simp only [Act.put, List.setIfInBounds_toArray, List.set_cons_zero, List.set_cons_succ]
          refine tkC 9 44 (.pointer (some ⟨w1.heap.size, 5, none⟩)) hHeld rfl ?_
          try simp only [Act.put, List.setIfInBounds_toArray, List.set_cons_zero, List.set_cons_succ]
          refine wpAnyH_ready (rs := [10]) (by kernel_rfl) (by simp) ?_
          refine AllReadyH.cons (o := { dst := none, op := _, type := _, pos := _, after := _, guard := _ }) rfl (fun KK hKK => ?_) AllReadyH.nil
          go_simp
          have hN : ∀ i, (w9.setCell ⟨w1.heap.size, 5, none⟩ (.int .i64 (fb + (Sz + 1)))).cell? ⟨w.heap.size, i, none⟩ = (#[.slice aw ws.length cw, .int .i64 semi, .int .i64 toh, .int .i64 top, .bool cyc, .int .i64 scan, .int .i64 old, .int .i64 copied, .int .i64 serial, .slice ar rs.length cr] : Array Value)[i]? := fun i => by rw [World.cell?_setCell_other _ _ _ _ (fun e => nB (congrArg Addr.block e))]; exact hHeld i
          clear hHeld
          refine hKK.out _ _ hN (fun _ => ?_)
          clear hKK KK
          try simp only [Act.put, List.setIfInBounds_toArray, List.set_cons_zero, List.set_cons_succ]
          refine wpAnyH_done (by kernel_rfl) ?_ _
          obtain ⟨P1, P2⟩ := HP.out wh w9 HBh.out (by rw [← HW8.out]; exact b9')
          rw [show fb + Sz + 1 = fb + (Sz + 1) by omega] at P1 P2
          have B10 : Below w1.heap.size wr (w9.setCell ⟨w1.heap.size, 5, none⟩ (.int .i64 (fb + (Sz + 1)))) := (B8.out.trans (b9'.mono (by omega))).setCell (p := ⟨w1.heap.size, 5, none⟩) (Nat.le_refl _) _
          obtain ⟨w10, hw10⟩ : ∃ V, V = w9.setCell ⟨w1.heap.size, 5, none⟩ (.int .i64 (fb + (Sz + 1))) := ⟨_, rfl⟩
          rw [← hw10] at P1 P2 B10 hN ⊢
          have HP1 : Hid (w10.rowIs w1.heap.size 3 12 (fun i => .int .i64 (cen ws (L.take (k + 1)) i))) := P1
          have HP2 : Hid (Apart w1.heap.size (w1.heap.size + 1) w3 w10) := P2
          have HB10 : Hid (Below w1.heap.size wr w10) := B10
          clear hw10 P1 P2 B10 b9' f9 KS k8 r8 f8 B8 HW8 HWB HP HBh
          go_wp2_with (go_at_call 51; refine (HWD.out _ HB10.out).mono ?_; rintro e w11 ⟨rfl, b11⟩)
          go_roundw
          case rel => exact ⟨k + 1, P + Sz.toNat + 1, by omega, by omega, by first | go_num | (congr 1; omega), HCN, HP1.out.of_block (b11.block _ HP1.out.lt), HP2.out.trans (below_apart b11 (Nat.le_refl _) _ _)⟩
          case measure => simp [intOf]; omega
      · have r0 := HR.out.cell (i := 6) (by omega)
        have r1 := HR.out.cell (i := 7) (by omega)
        have fz := HR.out.frozen
        obtain ⟨p0, p0'⟩ := HBD.out 6
        obtain ⟨p1, p1'⟩ := HBD.out 7
        have e0 := HT.out 6
        have e1 := HT.out 7
        rw [if_pos (by omega)] at e0
        rw [if_neg (by omega), if_pos (by omega)] at e1
        have e2 : ∀ i, i ≠ 6 → i ≠ 6 + 1 → g i = f i := fun i h1 h2 => by rw [HT.out i, if_neg (by omega), if_neg (by omega)]
        have HP : Hid (∀ wh w9, Below wr.heap.size wr wh → Below (wh.setCell ⟨w1.heap.size, 6, none⟩ (.int .i64 (f 6 + 1))).heap.size (wh.setCell ⟨w1.heap.size, 6, none⟩ (.int .i64 (f 6 + 1))) w9 → (w9.setCell ⟨w1.heap.size, 7, none⟩ (.int .i64 (f 7 + Sz + 1))).rowIs w1.heap.size 3 12 (fun i => .int .i64 (cen ws (L.take (k + 1)) i)) ∧ Apart w1.heap.size (w1.heap.size + 1) w3 (w9.setCell ⟨w1.heap.size, 7, none⟩ (.int .i64 (f 7 + Sz + 1)))) := fun wh w9 h1 h2 => by
          have hp := cen_put2 (HR.out.of_block (h1.block _ HR.out.lt)) h2 e0 e1 e2
          rw [HG.out] at hp
          exact ⟨hp, cen_apart2 (HA.out.trans (below_apart h1 (Nat.le_refl _) _ _)) h2⟩
        generalize f 6 = fa at r0 p0 p0' HP
        generalize f 7 = fb at r1 p1 p1' HP
        clear e0 e1 e2 HBD HT HG HA HR
        go_upto_region 9 with (go_at_call 81; refine (HHD.out _ (Below.refl _ _)).mono ?_; rintro e wh ⟨rfl, bh⟩; have HBh : Hid (Below wr.heap.size wr wh) := bh; have rh : wh.cell? ⟨w1.heap.size, 6, none⟩ = some (.int .i64 fa) := (by rw [bh.cell (p := ⟨w1.heap.size, 6, none⟩) lcr]; exact r0); have fh : wh.frozen? ⟨w1.heap.size, 6, none⟩ = false := (by rw [(bcell bh).2 _ _ lcr]; exact fz 6))
        obtain ⟨w8, hw8⟩ : ∃ V, V = wh.setCell ⟨w1.heap.size, 6, none⟩ (.int .i64 (fa + 1)) := ⟨_, rfl⟩
        rw [← hw8]
        have k8 : ∀ i, w8.cell? ⟨w.heap.size, i, none⟩ = (#[.slice aw ws.length cw, .int .i64 semi, .int .i64 toh, .int .i64 top, .bool cyc, .int .i64 scan, .int .i64 old, .int .i64 copied, .int .i64 serial, .slice ar rs.length cr] : Array Value)[i]? := fun i => by rw [hw8, World.cell?_setCell_other _ _ _ _ (fun e => nB (congrArg Addr.block e)), HBh.out.cell (p := ⟨w.heap.size, i, none⟩) lHr]; exact kr i
        have r8 : w8.cell? ⟨w1.heap.size, 7, none⟩ = some (.int .i64 fb) := by rw [hw8, World.cell?_setCell_other _ _ _ _ (fun e => by have := congrArg Addr.off e; simp at this), HBh.out.cell (p := ⟨w1.heap.size, 7, none⟩) lcr]; exact r1
        have f8 : w8.frozen? ⟨w1.heap.size, 7, none⟩ = false := by rw [hw8, World.frozen?_setCell, (bcell HBh.out).2 _ _ lcr]; exact fz 7
        have z8 : w8.heap.size = wh.heap.size := by rw [hw8]; simp
        have lc8 : w1.heap.size < w8.heap.size := by have := HBh.out.size; omega
        have B8 : Hid (Below w1.heap.size wr w8) := by show Below w1.heap.size wr w8; have hx : Below w1.heap.size wr wh := HBh.out.mono (by omega); rw [hw8]; exact hx.setCell (p := ⟨w1.heap.size, 6, none⟩) (Nat.le_refl _) _
        have HW8 : Hid (w8 = wh.setCell ⟨w1.heap.size, 6, none⟩ (.int .i64 (fa + 1))) := hw8
        clear hw8 bh rh fh r0 r1 fz kr
        have KS : ∀ V, Below w8.heap.size w8 V → (∀ i, V.cell? ⟨w.heap.size, i, none⟩ = (#[.slice aw ws.length cw, .int .i64 semi, .int .i64 toh, .int .i64 top, .bool cyc, .int .i64 scan, .int .i64 old, .int .i64 copied, .int .i64 serial, .slice ar rs.length cr] : Array Value)[i]?) := fun V hV => has_below k8 hV (by omega)
        refine wp_region_held_drew (S := fun V => ∀ i, V.cell? ⟨w.heap.size, i, none⟩ = (#[.slice aw ws.length cw, .int .i64 semi, .int .i64 toh, .int .i64 top, .bool cyc, .int .i64 scan, .int .i64 old, .int .i64 copied, .int .i64 serial, .slice ar rs.length cr] : Array Value)[i]?) (by kernel_rfl) (KS _ (Below.refl _ _).drew) (fun hHeld => ?_)
        refine tkC 0 35 (.slice (some ⟨w1.heap.size, 0, none⟩) 12 12) hHeld rfl ?_
        try simp only [Act.put, List.setIfInBounds_toArray, List.set_cons_zero, List.set_cons_succ]
        refine tkC 1 36 (.int .i64 6) hHeld rfl ?_
        try simp only [Act.put, List.setIfInBounds_toArray, List.set_cons_zero, List.set_cons_succ]
        refine tkC 2 37 (.int .i64 7) hHeld rfl ?_ (by intro w hSw; (try dsimp only at hSw); go_simp; rw [IntKind.wrap_i64]; omega)
        try simp only [Act.put, List.setIfInBounds_toArray, List.set_cons_zero, List.set_cons_succ]
        refine tkC 3 38 (.pointer (some ⟨w1.heap.size, 7, none⟩)) hHeld rfl ?_
        try simp only [Act.put, List.setIfInBounds_toArray, List.set_cons_zero, List.set_cons_succ]
        refine tkC 5 40 (.agg #[.slice aw ws.length cw, .int .i64 semi, .int .i64 toh, .int .i64 top, .bool cyc, .int .i64 scan, .int .i64 old, .int .i64 copied, .int .i64 serial, .slice ar rs.length cr]) hHeld rfl ?_ (by intro V hSw; have q0 := hSw 0; have q1 := hSw 1; have q2 := hSw 2; have q3 := hSw 3; have q4 := hSw 4; have q5 := hSw 5; have q6 := hSw 6; have q7 := hSw 7; have q8 := hSw 8; have q9 := hSw 9; simp at q0 q1 q2 q3 q4 q5 q6 q7 q8 q9; go_simp)
        try simp only [Act.put, List.setIfInBounds_toArray, List.set_cons_zero, List.set_cons_succ]
        refine tkC 6 41 (.int .i64 (P : Int)) hHeld rfl ?_
        try simp only [Act.put, List.setIfInBounds_toArray, List.set_cons_zero, List.set_cons_succ]
        have HWB : Hid (∀ V, Below w8.heap.size w8 V → Below w1.heap.size wr V) := fun V hV => B8.out.trans (hV.mono (by omega))
        refine wpAnyH_ready (rs := [4, 7]) (by kernel_rfl) (by simp) ?_
        refine AllReadyH.cons (o := { dst := some 39, op := _, type := _, pos := _, after := _, guard := _ }) rfl (fun KK hKK => ?_) (AllReadyH.cons (o := { dst := some 42, op := _, type := _, pos := _, after := _, guard := _ }) rfl (fun KK hKK => ?_) AllReadyH.nil)
        · go_simp
          have hN := hHeld
          clear hHeld
          refine hKK.out _ _ hN (fun hHeld => ?_)
          clear hKK KK hN
          try simp only [Act.put, List.setIfInBounds_toArray, List.set_cons_zero, List.set_cons_succ]
          refine wpAnyH_ready (rs := [7]) (by kernel_rfl) (by simp) ?_
          refine AllReadyH.cons (o := { dst := some 42, op := _, type := _, pos := _, after := _, guard := _ }) rfl (fun KK hKK => ?_) AllReadyH.nil
          go_simp
          go_at_call 51
          refine (HWD.out _ (HWB.out _ (Below.refl _ _).drew)).mono ?_
          rintro e w9 ⟨rfl, b9⟩
          have b9' : Below w8.heap.size w8 w9 := below_next (Below.refl _ _).drew b9
          have r9 : w9.cell? ⟨w1.heap.size, 7, none⟩ = some (.int .i64 fb) := by rw [b9'.cell (p := ⟨w1.heap.size, 7, none⟩) lc8]; exact r8
          have f9 : w9.frozen? ⟨w1.heap.size, 7, none⟩ = false := by rw [(bcell b9').2 _ _ lc8]; exact f8
          have H9 := KS _ b9'
          clear b9 hHeld
          refine hKK.out _ _ H9 (fun hHeld => ?_)
          clear hKK KK
          try simp only [Act.put, List.setIfInBounds_toArray, List.set_cons_zero, List.set_cons_succ]
          refine tkC 8 43 (.int .i64 (fb + (Sz + 1))) hHeld rfl ?_ (by intro w hSw; (try dsimp only at hSw); go_simp; rw [IntKind.wrap_i64]; omega)
          try simp only [Act.put, List.setIfInBounds_toArray, List.set_cons_zero, List.set_cons_succ]
          refine tkC 9 44 (.pointer (some ⟨w1.heap.size, 7, none⟩)) hHeld rfl ?_
          try simp only [Act.put, List.setIfInBounds_toArray, List.set_cons_zero, List.set_cons_succ]
          refine wpAnyH_ready (rs := [10]) (by kernel_rfl) (by simp) ?_
          refine AllReadyH.cons (o := { dst := none, op := _, type := _, pos := _, after := _, guard := _ }) rfl (fun KK hKK => ?_) AllReadyH.nil
          go_simp
          have hN : ∀ i, (w9.setCell ⟨w1.heap.size, 7, none⟩ (.int .i64 (fb + (Sz + 1)))).cell? ⟨w.heap.size, i, none⟩ = (#[.slice aw ws.length cw, .int .i64 semi, .int .i64 toh, .int .i64 top, .bool cyc, .int .i64 scan, .int .i64 old, .int .i64 copied, .int .i64 serial, .slice ar rs.length cr] : Array Value)[i]? := fun i => by rw [World.cell?_setCell_other _ _ _ _ (fun e => nB (congrArg Addr.block e))]; exact hHeld i
          clear hHeld
          refine hKK.out _ _ hN (fun _ => ?_)
          clear hKK KK
          try simp only [Act.put, List.setIfInBounds_toArray, List.set_cons_zero, List.set_cons_succ]
          refine wpAnyH_done (by kernel_rfl) ?_ _
          obtain ⟨P1, P2⟩ := HP.out wh w9 HBh.out (by rw [← HW8.out]; exact b9')
          rw [show fb + Sz + 1 = fb + (Sz + 1) by omega] at P1 P2
          have B10 : Below w1.heap.size wr (w9.setCell ⟨w1.heap.size, 7, none⟩ (.int .i64 (fb + (Sz + 1)))) := (B8.out.trans (b9'.mono (by omega))).setCell (p := ⟨w1.heap.size, 7, none⟩) (Nat.le_refl _) _
          obtain ⟨w10, hw10⟩ : ∃ V, V = w9.setCell ⟨w1.heap.size, 7, none⟩ (.int .i64 (fb + (Sz + 1))) := ⟨_, rfl⟩
          rw [← hw10] at P1 P2 B10 hN ⊢
          have HP1 : Hid (w10.rowIs w1.heap.size 3 12 (fun i => .int .i64 (cen ws (L.take (k + 1)) i))) := P1
          have HP2 : Hid (Apart w1.heap.size (w1.heap.size + 1) w3 w10) := P2
          have HB10 : Hid (Below w1.heap.size wr w10) := B10
          clear hw10 P1 P2 B10 b9' f9 KS k8 r8 f8 B8 HW8 HWB HP HBh
          go_wp2_with (go_at_call 51; refine (HWD.out _ HB10.out).mono ?_; rintro e w11 ⟨rfl, b11⟩)
          go_roundw
          case rel => exact ⟨k + 1, P + Sz.toNat + 1, by omega, by omega, by first | go_num | (congr 1; omega), HCN, HP1.out.of_block (b11.block _ HP1.out.lt), HP2.out.trans (below_apart b11 (Nat.le_refl _) _ _)⟩
          case measure => simp [intOf]; omega
        · go_simp
          go_at_call 51
          refine (HWD.out _ (HWB.out _ (Below.refl _ _).drew)).mono ?_
          rintro e w9 ⟨rfl, b9⟩
          have b9' : Below w8.heap.size w8 w9 := below_next (Below.refl _ _).drew b9
          have r9 : w9.cell? ⟨w1.heap.size, 7, none⟩ = some (.int .i64 fb) := by rw [b9'.cell (p := ⟨w1.heap.size, 7, none⟩) lc8]; exact r8
          have f9 : w9.frozen? ⟨w1.heap.size, 7, none⟩ = false := by rw [(bcell b9').2 _ _ lc8]; exact f8
          have H9 := KS _ b9'
          clear b9 hHeld
          refine hKK.out _ _ H9 (fun hHeld => ?_)
          clear hKK KK
          try simp only [Act.put, List.setIfInBounds_toArray, List.set_cons_zero, List.set_cons_succ]
          refine wpAnyH_ready (rs := [4]) (by kernel_rfl) (by simp) ?_
          refine AllReadyH.cons (o := { dst := some 39, op := _, type := _, pos := _, after := _, guard := _ }) rfl (fun KK hKK => ?_) AllReadyH.nil
          go_simp
          have hN := hHeld
          clear hHeld
          refine hKK.out _ _ hN (fun hHeld => ?_)
          clear hKK KK hN
          try simp only [Act.put, List.setIfInBounds_toArray, List.set_cons_zero, List.set_cons_succ]
          refine tkC 8 43 (.int .i64 (fb + (Sz + 1))) hHeld rfl ?_ (by intro w hSw; (try dsimp only at hSw); go_simp; rw [IntKind.wrap_i64]; omega)
          try simp only [Act.put, List.setIfInBounds_toArray, List.set_cons_zero, List.set_cons_succ]
          refine tkC 9 44 (.pointer (some ⟨w1.heap.size, 7, none⟩)) hHeld rfl ?_
          try simp only [Act.put, List.setIfInBounds_toArray, List.set_cons_zero, List.set_cons_succ]
          refine wpAnyH_ready (rs := [10]) (by kernel_rfl) (by simp) ?_
          refine AllReadyH.cons (o := { dst := none, op := _, type := _, pos := _, after := _, guard := _ }) rfl (fun KK hKK => ?_) AllReadyH.nil
          go_simp
          have hN : ∀ i, (w9.setCell ⟨w1.heap.size, 7, none⟩ (.int .i64 (fb + (Sz + 1)))).cell? ⟨w.heap.size, i, none⟩ = (#[.slice aw ws.length cw, .int .i64 semi, .int .i64 toh, .int .i64 top, .bool cyc, .int .i64 scan, .int .i64 old, .int .i64 copied, .int .i64 serial, .slice ar rs.length cr] : Array Value)[i]? := fun i => by rw [World.cell?_setCell_other _ _ _ _ (fun e => nB (congrArg Addr.block e))]; exact hHeld i
          clear hHeld
          refine hKK.out _ _ hN (fun _ => ?_)
          clear hKK KK
          try simp only [Act.put, List.setIfInBounds_toArray, List.set_cons_zero, List.set_cons_succ]
          refine wpAnyH_done (by kernel_rfl) ?_ _
          obtain ⟨P1, P2⟩ := HP.out wh w9 HBh.out (by rw [← HW8.out]; exact b9')
          rw [show fb + Sz + 1 = fb + (Sz + 1) by omega] at P1 P2
          have B10 : Below w1.heap.size wr (w9.setCell ⟨w1.heap.size, 7, none⟩ (.int .i64 (fb + (Sz + 1)))) := (B8.out.trans (b9'.mono (by omega))).setCell (p := ⟨w1.heap.size, 7, none⟩) (Nat.le_refl _) _
          obtain ⟨w10, hw10⟩ : ∃ V, V = w9.setCell ⟨w1.heap.size, 7, none⟩ (.int .i64 (fb + (Sz + 1))) := ⟨_, rfl⟩
          rw [← hw10] at P1 P2 B10 hN ⊢
          have HP1 : Hid (w10.rowIs w1.heap.size 3 12 (fun i => .int .i64 (cen ws (L.take (k + 1)) i))) := P1
          have HP2 : Hid (Apart w1.heap.size (w1.heap.size + 1) w3 w10) := P2
          have HB10 : Hid (Below w1.heap.size wr w10) := B10
          clear hw10 P1 P2 B10 b9' f9 KS k8 r8 f8 B8 HW8 HWB HP HBh
          go_wp2_with (go_at_call 51; refine (HWD.out _ HB10.out).mono ?_; rintro e w11 ⟨rfl, b11⟩)
          go_roundw
          case rel => exact ⟨k + 1, P + Sz.toNat + 1, by omega, by omega, by first | go_num | (congr 1; omega), HCN, HP1.out.of_block (b11.block _ HP1.out.lt), HP2.out.trans (below_apart b11 (Nat.le_refl _) _ _)⟩
          case measure => simp [intOf]; omega
      · have r0 := HR.out.cell (i := 8) (by omega)
        have r1 := HR.out.cell (i := 9) (by omega)
        have fz := HR.out.frozen
        obtain ⟨p0, p0'⟩ := HBD.out 8
        obtain ⟨p1, p1'⟩ := HBD.out 9
        have e0 := HT.out 8
        have e1 := HT.out 9
        rw [if_pos (by omega)] at e0
        rw [if_neg (by omega), if_pos (by omega)] at e1
        have e2 : ∀ i, i ≠ 8 → i ≠ 8 + 1 → g i = f i := fun i h1 h2 => by rw [HT.out i, if_neg (by omega), if_neg (by omega)]
        have HP : Hid (∀ wh w9, Below wr.heap.size wr wh → Below (wh.setCell ⟨w1.heap.size, 8, none⟩ (.int .i64 (f 8 + 1))).heap.size (wh.setCell ⟨w1.heap.size, 8, none⟩ (.int .i64 (f 8 + 1))) w9 → (w9.setCell ⟨w1.heap.size, 9, none⟩ (.int .i64 (f 9 + Sz + 1))).rowIs w1.heap.size 3 12 (fun i => .int .i64 (cen ws (L.take (k + 1)) i)) ∧ Apart w1.heap.size (w1.heap.size + 1) w3 (w9.setCell ⟨w1.heap.size, 9, none⟩ (.int .i64 (f 9 + Sz + 1)))) := fun wh w9 h1 h2 => by
          have hp := cen_put2 (HR.out.of_block (h1.block _ HR.out.lt)) h2 e0 e1 e2
          rw [HG.out] at hp
          exact ⟨hp, cen_apart2 (HA.out.trans (below_apart h1 (Nat.le_refl _) _ _)) h2⟩
        generalize f 8 = fa at r0 p0 p0' HP
        generalize f 9 = fb at r1 p1 p1' HP
        clear e0 e1 e2 HBD HT HG HA HR
        go_upto_region 9 with (go_at_call 81; refine (HHD.out _ (Below.refl _ _)).mono ?_; rintro e wh ⟨rfl, bh⟩; have HBh : Hid (Below wr.heap.size wr wh) := bh; have rh : wh.cell? ⟨w1.heap.size, 8, none⟩ = some (.int .i64 fa) := (by rw [bh.cell (p := ⟨w1.heap.size, 8, none⟩) lcr]; exact r0); have fh : wh.frozen? ⟨w1.heap.size, 8, none⟩ = false := (by rw [(bcell bh).2 _ _ lcr]; exact fz 8))
        obtain ⟨w8, hw8⟩ : ∃ V, V = wh.setCell ⟨w1.heap.size, 8, none⟩ (.int .i64 (fa + 1)) := ⟨_, rfl⟩
        rw [← hw8]
        have k8 : ∀ i, w8.cell? ⟨w.heap.size, i, none⟩ = (#[.slice aw ws.length cw, .int .i64 semi, .int .i64 toh, .int .i64 top, .bool cyc, .int .i64 scan, .int .i64 old, .int .i64 copied, .int .i64 serial, .slice ar rs.length cr] : Array Value)[i]? := fun i => by rw [hw8, World.cell?_setCell_other _ _ _ _ (fun e => nB (congrArg Addr.block e)), HBh.out.cell (p := ⟨w.heap.size, i, none⟩) lHr]; exact kr i
        have r8 : w8.cell? ⟨w1.heap.size, 9, none⟩ = some (.int .i64 fb) := by rw [hw8, World.cell?_setCell_other _ _ _ _ (fun e => by have := congrArg Addr.off e; simp at this), HBh.out.cell (p := ⟨w1.heap.size, 9, none⟩) lcr]; exact r1
        have f8 : w8.frozen? ⟨w1.heap.size, 9, none⟩ = false := by rw [hw8, World.frozen?_setCell, (bcell HBh.out).2 _ _ lcr]; exact fz 9
        have z8 : w8.heap.size = wh.heap.size := by rw [hw8]; simp
        have lc8 : w1.heap.size < w8.heap.size := by have := HBh.out.size; omega
        have B8 : Hid (Below w1.heap.size wr w8) := by show Below w1.heap.size wr w8; have hx : Below w1.heap.size wr wh := HBh.out.mono (by omega); rw [hw8]; exact hx.setCell (p := ⟨w1.heap.size, 8, none⟩) (Nat.le_refl _) _
        have HW8 : Hid (w8 = wh.setCell ⟨w1.heap.size, 8, none⟩ (.int .i64 (fa + 1))) := hw8
        clear hw8 bh rh fh r0 r1 fz kr
        have KS : ∀ V, Below w8.heap.size w8 V → (∀ i, V.cell? ⟨w.heap.size, i, none⟩ = (#[.slice aw ws.length cw, .int .i64 semi, .int .i64 toh, .int .i64 top, .bool cyc, .int .i64 scan, .int .i64 old, .int .i64 copied, .int .i64 serial, .slice ar rs.length cr] : Array Value)[i]?) := fun V hV => has_below k8 hV (by omega)
        refine wp_region_held_drew (S := fun V => ∀ i, V.cell? ⟨w.heap.size, i, none⟩ = (#[.slice aw ws.length cw, .int .i64 semi, .int .i64 toh, .int .i64 top, .bool cyc, .int .i64 scan, .int .i64 old, .int .i64 copied, .int .i64 serial, .slice ar rs.length cr] : Array Value)[i]?) (by kernel_rfl) (KS _ (Below.refl _ _).drew) (fun hHeld => ?_)
        refine tkC 0 35 (.slice (some ⟨w1.heap.size, 0, none⟩) 12 12) hHeld rfl ?_
        try simp only [Act.put, List.setIfInBounds_toArray, List.set_cons_zero, List.set_cons_succ]
        refine tkC 1 36 (.int .i64 8) hHeld rfl ?_
        try simp only [Act.put, List.setIfInBounds_toArray, List.set_cons_zero, List.set_cons_succ]
        refine tkC 2 37 (.int .i64 9) hHeld rfl ?_ (by intro w hSw; (try dsimp only at hSw); go_simp; rw [IntKind.wrap_i64]; omega)
        try simp only [Act.put, List.setIfInBounds_toArray, List.set_cons_zero, List.set_cons_succ]
        refine tkC 3 38 (.pointer (some ⟨w1.heap.size, 9, none⟩)) hHeld rfl ?_
        try simp only [Act.put, List.setIfInBounds_toArray, List.set_cons_zero, List.set_cons_succ]
        refine tkC 5 40 (.agg #[.slice aw ws.length cw, .int .i64 semi, .int .i64 toh, .int .i64 top, .bool cyc, .int .i64 scan, .int .i64 old, .int .i64 copied, .int .i64 serial, .slice ar rs.length cr]) hHeld rfl ?_ (by intro V hSw; have q0 := hSw 0; have q1 := hSw 1; have q2 := hSw 2; have q3 := hSw 3; have q4 := hSw 4; have q5 := hSw 5; have q6 := hSw 6; have q7 := hSw 7; have q8 := hSw 8; have q9 := hSw 9; simp at q0 q1 q2 q3 q4 q5 q6 q7 q8 q9; go_simp)
        try simp only [Act.put, List.setIfInBounds_toArray, List.set_cons_zero, List.set_cons_succ]
        refine tkC 6 41 (.int .i64 (P : Int)) hHeld rfl ?_
        try simp only [Act.put, List.setIfInBounds_toArray, List.set_cons_zero, List.set_cons_succ]
        have HWB : Hid (∀ V, Below w8.heap.size w8 V → Below w1.heap.size wr V) := fun V hV => B8.out.trans (hV.mono (by omega))
        refine wpAnyH_ready (rs := [4, 7]) (by kernel_rfl) (by simp) ?_
        refine AllReadyH.cons (o := { dst := some 39, op := _, type := _, pos := _, after := _, guard := _ }) rfl (fun KK hKK => ?_) (AllReadyH.cons (o := { dst := some 42, op := _, type := _, pos := _, after := _, guard := _ }) rfl (fun KK hKK => ?_) AllReadyH.nil)
        · go_simp
          have hN := hHeld
          clear hHeld
          refine hKK.out _ _ hN (fun hHeld => ?_)
          clear hKK KK hN
          try simp only [Act.put, List.setIfInBounds_toArray, List.set_cons_zero, List.set_cons_succ]
          refine wpAnyH_ready (rs := [7]) (by kernel_rfl) (by simp) ?_
          refine AllReadyH.cons (o := { dst := some 42, op := _, type := _, pos := _, after := _, guard := _ }) rfl (fun KK hKK => ?_) AllReadyH.nil
          go_simp
          go_at_call 51
          refine (HWD.out _ (HWB.out _ (Below.refl _ _).drew)).mono ?_
          rintro e w9 ⟨rfl, b9⟩
          have b9' : Below w8.heap.size w8 w9 := below_next (Below.refl _ _).drew b9
          have r9 : w9.cell? ⟨w1.heap.size, 9, none⟩ = some (.int .i64 fb) := by rw [b9'.cell (p := ⟨w1.heap.size, 9, none⟩) lc8]; exact r8
          have f9 : w9.frozen? ⟨w1.heap.size, 9, none⟩ = false := by rw [(bcell b9').2 _ _ lc8]; exact f8
          have H9 := KS _ b9'
          clear b9 hHeld
          refine hKK.out _ _ H9 (fun hHeld => ?_)
          clear hKK KK
          try simp only [Act.put, List.setIfInBounds_toArray, List.set_cons_zero, List.set_cons_succ]
          refine tkC 8 43 (.int .i64 (fb + (Sz + 1))) hHeld rfl ?_ (by intro w hSw; (try dsimp only at hSw); go_simp; rw [IntKind.wrap_i64]; omega)
          try simp only [Act.put, List.setIfInBounds_toArray, List.set_cons_zero, List.set_cons_succ]
          refine tkC 9 44 (.pointer (some ⟨w1.heap.size, 9, none⟩)) hHeld rfl ?_
          try simp only [Act.put, List.setIfInBounds_toArray, List.set_cons_zero, List.set_cons_succ]
          refine wpAnyH_ready (rs := [10]) (by kernel_rfl) (by simp) ?_
          refine AllReadyH.cons (o := { dst := none, op := _, type := _, pos := _, after := _, guard := _ }) rfl (fun KK hKK => ?_) AllReadyH.nil
          go_simp
          have hN : ∀ i, (w9.setCell ⟨w1.heap.size, 9, none⟩ (.int .i64 (fb + (Sz + 1)))).cell? ⟨w.heap.size, i, none⟩ = (#[.slice aw ws.length cw, .int .i64 semi, .int .i64 toh, .int .i64 top, .bool cyc, .int .i64 scan, .int .i64 old, .int .i64 copied, .int .i64 serial, .slice ar rs.length cr] : Array Value)[i]? := fun i => by rw [World.cell?_setCell_other _ _ _ _ (fun e => nB (congrArg Addr.block e))]; exact hHeld i
          clear hHeld
          refine hKK.out _ _ hN (fun _ => ?_)
          clear hKK KK
          try simp only [Act.put, List.setIfInBounds_toArray, List.set_cons_zero, List.set_cons_succ]
          refine wpAnyH_done (by kernel_rfl) ?_ _
          obtain ⟨P1, P2⟩ := HP.out wh w9 HBh.out (by rw [← HW8.out]; exact b9')
          rw [show fb + Sz + 1 = fb + (Sz + 1) by omega] at P1 P2
          have B10 : Below w1.heap.size wr (w9.setCell ⟨w1.heap.size, 9, none⟩ (.int .i64 (fb + (Sz + 1)))) := (B8.out.trans (b9'.mono (by omega))).setCell (p := ⟨w1.heap.size, 9, none⟩) (Nat.le_refl _) _
          obtain ⟨w10, hw10⟩ : ∃ V, V = w9.setCell ⟨w1.heap.size, 9, none⟩ (.int .i64 (fb + (Sz + 1))) := ⟨_, rfl⟩
          rw [← hw10] at P1 P2 B10 hN ⊢
          have HP1 : Hid (w10.rowIs w1.heap.size 3 12 (fun i => .int .i64 (cen ws (L.take (k + 1)) i))) := P1
          have HP2 : Hid (Apart w1.heap.size (w1.heap.size + 1) w3 w10) := P2
          have HB10 : Hid (Below w1.heap.size wr w10) := B10
          clear hw10 P1 P2 B10 b9' f9 KS k8 r8 f8 B8 HW8 HWB HP HBh
          go_wp2_with (go_at_call 51; refine (HWD.out _ HB10.out).mono ?_; rintro e w11 ⟨rfl, b11⟩)
          go_roundw
          case rel => exact ⟨k + 1, P + Sz.toNat + 1, by omega, by omega, by first | go_num | (congr 1; omega), HCN, HP1.out.of_block (b11.block _ HP1.out.lt), HP2.out.trans (below_apart b11 (Nat.le_refl _) _ _)⟩
          case measure => simp [intOf]; omega
        · go_simp
          go_at_call 51
          refine (HWD.out _ (HWB.out _ (Below.refl _ _).drew)).mono ?_
          rintro e w9 ⟨rfl, b9⟩
          have b9' : Below w8.heap.size w8 w9 := below_next (Below.refl _ _).drew b9
          have r9 : w9.cell? ⟨w1.heap.size, 9, none⟩ = some (.int .i64 fb) := by rw [b9'.cell (p := ⟨w1.heap.size, 9, none⟩) lc8]; exact r8
          have f9 : w9.frozen? ⟨w1.heap.size, 9, none⟩ = false := by rw [(bcell b9').2 _ _ lc8]; exact f8
          have H9 := KS _ b9'
          clear b9 hHeld
          refine hKK.out _ _ H9 (fun hHeld => ?_)
          clear hKK KK
          try simp only [Act.put, List.setIfInBounds_toArray, List.set_cons_zero, List.set_cons_succ]
          refine wpAnyH_ready (rs := [4]) (by kernel_rfl) (by simp) ?_
          refine AllReadyH.cons (o := { dst := some 39, op := _, type := _, pos := _, after := _, guard := _ }) rfl (fun KK hKK => ?_) AllReadyH.nil
          go_simp
          have hN := hHeld
          clear hHeld
          refine hKK.out _ _ hN (fun hHeld => ?_)
          clear hKK KK hN
          try simp only [Act.put, List.setIfInBounds_toArray, List.set_cons_zero, List.set_cons_succ]
          refine tkC 8 43 (.int .i64 (fb + (Sz + 1))) hHeld rfl ?_ (by intro w hSw; (try dsimp only at hSw); go_simp; rw [IntKind.wrap_i64]; omega)
          try simp only [Act.put, List.setIfInBounds_toArray, List.set_cons_zero, List.set_cons_succ]
          refine tkC 9 44 (.pointer (some ⟨w1.heap.size, 9, none⟩)) hHeld rfl ?_
          try simp only [Act.put, List.setIfInBounds_toArray, List.set_cons_zero, List.set_cons_succ]
          refine wpAnyH_ready (rs := [10]) (by kernel_rfl) (by simp) ?_
          refine AllReadyH.cons (o := { dst := none, op := _, type := _, pos := _, after := _, guard := _ }) rfl (fun KK hKK => ?_) AllReadyH.nil
          go_simp
          have hN : ∀ i, (w9.setCell ⟨w1.heap.size, 9, none⟩ (.int .i64 (fb + (Sz + 1)))).cell? ⟨w.heap.size, i, none⟩ = (#[.slice aw ws.length cw, .int .i64 semi, .int .i64 toh, .int .i64 top, .bool cyc, .int .i64 scan, .int .i64 old, .int .i64 copied, .int .i64 serial, .slice ar rs.length cr] : Array Value)[i]? := fun i => by rw [World.cell?_setCell_other _ _ _ _ (fun e => nB (congrArg Addr.block e))]; exact hHeld i
          clear hHeld
          refine hKK.out _ _ hN (fun _ => ?_)
          clear hKK KK
          try simp only [Act.put, List.setIfInBounds_toArray, List.set_cons_zero, List.set_cons_succ]
          refine wpAnyH_done (by kernel_rfl) ?_ _
          obtain ⟨P1, P2⟩ := HP.out wh w9 HBh.out (by rw [← HW8.out]; exact b9')
          rw [show fb + Sz + 1 = fb + (Sz + 1) by omega] at P1 P2
          have B10 : Below w1.heap.size wr (w9.setCell ⟨w1.heap.size, 9, none⟩ (.int .i64 (fb + (Sz + 1)))) := (B8.out.trans (b9'.mono (by omega))).setCell (p := ⟨w1.heap.size, 9, none⟩) (Nat.le_refl _) _
          obtain ⟨w10, hw10⟩ : ∃ V, V = w9.setCell ⟨w1.heap.size, 9, none⟩ (.int .i64 (fb + (Sz + 1))) := ⟨_, rfl⟩
          rw [← hw10] at P1 P2 B10 hN ⊢
          have HP1 : Hid (w10.rowIs w1.heap.size 3 12 (fun i => .int .i64 (cen ws (L.take (k + 1)) i))) := P1
          have HP2 : Hid (Apart w1.heap.size (w1.heap.size + 1) w3 w10) := P2
          have HB10 : Hid (Below w1.heap.size wr w10) := B10
          clear hw10 P1 P2 B10 b9' f9 KS k8 r8 f8 B8 HW8 HWB HP HBh
          go_wp2_with (go_at_call 51; refine (HWD.out _ HB10.out).mono ?_; rintro e w11 ⟨rfl, b11⟩)
          go_roundw
          case rel => exact ⟨k + 1, P + Sz.toNat + 1, by omega, by omega, by first | go_num | (congr 1; omega), HCN, HP1.out.of_block (b11.block _ HP1.out.lt), HP2.out.trans (below_apart b11 (Nat.le_refl _) _ _)⟩
          case measure => simp [intOf]; omega
      · have r0 := HR.out.cell (i := 10) (by omega)
        have r1 := HR.out.cell (i := 11) (by omega)
        have fz := HR.out.frozen
        obtain ⟨p0, p0'⟩ := HBD.out 10
        obtain ⟨p1, p1'⟩ := HBD.out 11
        have e0 := HT.out 10
        have e1 := HT.out 11
        rw [if_pos (by omega)] at e0
        rw [if_neg (by omega), if_pos (by omega)] at e1
        have e2 : ∀ i, i ≠ 10 → i ≠ 10 + 1 → g i = f i := fun i h1 h2 => by rw [HT.out i, if_neg (by omega), if_neg (by omega)]
        have HP : Hid (∀ wh w9, Below wr.heap.size wr wh → Below (wh.setCell ⟨w1.heap.size, 10, none⟩ (.int .i64 (f 10 + 1))).heap.size (wh.setCell ⟨w1.heap.size, 10, none⟩ (.int .i64 (f 10 + 1))) w9 → (w9.setCell ⟨w1.heap.size, 11, none⟩ (.int .i64 (f 11 + Sz + 1))).rowIs w1.heap.size 3 12 (fun i => .int .i64 (cen ws (L.take (k + 1)) i)) ∧ Apart w1.heap.size (w1.heap.size + 1) w3 (w9.setCell ⟨w1.heap.size, 11, none⟩ (.int .i64 (f 11 + Sz + 1)))) := fun wh w9 h1 h2 => by
          have hp := cen_put2 (HR.out.of_block (h1.block _ HR.out.lt)) h2 e0 e1 e2
          rw [HG.out] at hp
          exact ⟨hp, cen_apart2 (HA.out.trans (below_apart h1 (Nat.le_refl _) _ _)) h2⟩
        generalize f 10 = fa at r0 p0 p0' HP
        generalize f 11 = fb at r1 p1 p1' HP
        clear e0 e1 e2 HBD HT HG HA HR
        go_upto_region 9 with (go_at_call 81; refine (HHD.out _ (Below.refl _ _)).mono ?_; rintro e wh ⟨rfl, bh⟩; have HBh : Hid (Below wr.heap.size wr wh) := bh; have rh : wh.cell? ⟨w1.heap.size, 10, none⟩ = some (.int .i64 fa) := (by rw [bh.cell (p := ⟨w1.heap.size, 10, none⟩) lcr]; exact r0); have fh : wh.frozen? ⟨w1.heap.size, 10, none⟩ = false := (by rw [(bcell bh).2 _ _ lcr]; exact fz 10))
        obtain ⟨w8, hw8⟩ : ∃ V, V = wh.setCell ⟨w1.heap.size, 10, none⟩ (.int .i64 (fa + 1)) := ⟨_, rfl⟩
        rw [← hw8]
        have k8 : ∀ i, w8.cell? ⟨w.heap.size, i, none⟩ = (#[.slice aw ws.length cw, .int .i64 semi, .int .i64 toh, .int .i64 top, .bool cyc, .int .i64 scan, .int .i64 old, .int .i64 copied, .int .i64 serial, .slice ar rs.length cr] : Array Value)[i]? := fun i => by rw [hw8, World.cell?_setCell_other _ _ _ _ (fun e => nB (congrArg Addr.block e)), HBh.out.cell (p := ⟨w.heap.size, i, none⟩) lHr]; exact kr i
        have r8 : w8.cell? ⟨w1.heap.size, 11, none⟩ = some (.int .i64 fb) := by rw [hw8, World.cell?_setCell_other _ _ _ _ (fun e => by have := congrArg Addr.off e; simp at this), HBh.out.cell (p := ⟨w1.heap.size, 11, none⟩) lcr]; exact r1
        have f8 : w8.frozen? ⟨w1.heap.size, 11, none⟩ = false := by rw [hw8, World.frozen?_setCell, (bcell HBh.out).2 _ _ lcr]; exact fz 11
        have z8 : w8.heap.size = wh.heap.size := by rw [hw8]; simp
        have lc8 : w1.heap.size < w8.heap.size := by have := HBh.out.size; omega
        have B8 : Hid (Below w1.heap.size wr w8) := by show Below w1.heap.size wr w8; have hx : Below w1.heap.size wr wh := HBh.out.mono (by omega); rw [hw8]; exact hx.setCell (p := ⟨w1.heap.size, 10, none⟩) (Nat.le_refl _) _
        have HW8 : Hid (w8 = wh.setCell ⟨w1.heap.size, 10, none⟩ (.int .i64 (fa + 1))) := hw8
        clear hw8 bh rh fh r0 r1 fz kr
        have KS : ∀ V, Below w8.heap.size w8 V → (∀ i, V.cell? ⟨w.heap.size, i, none⟩ = (#[.slice aw ws.length cw, .int .i64 semi, .int .i64 toh, .int .i64 top, .bool cyc, .int .i64 scan, .int .i64 old, .int .i64 copied, .int .i64 serial, .slice ar rs.length cr] : Array Value)[i]?) := fun V hV => has_below k8 hV (by omega)
        refine wp_region_held_drew (S := fun V => ∀ i, V.cell? ⟨w.heap.size, i, none⟩ = (#[.slice aw ws.length cw, .int .i64 semi, .int .i64 toh, .int .i64 top, .bool cyc, .int .i64 scan, .int .i64 old, .int .i64 copied, .int .i64 serial, .slice ar rs.length cr] : Array Value)[i]?) (by kernel_rfl) (KS _ (Below.refl _ _).drew) (fun hHeld => ?_)
        refine tkC 0 35 (.slice (some ⟨w1.heap.size, 0, none⟩) 12 12) hHeld rfl ?_
        try simp only [Act.put, List.setIfInBounds_toArray, List.set_cons_zero, List.set_cons_succ]
        refine tkC 1 36 (.int .i64 10) hHeld rfl ?_
        try simp only [Act.put, List.setIfInBounds_toArray, List.set_cons_zero, List.set_cons_succ]
        refine tkC 2 37 (.int .i64 11) hHeld rfl ?_ (by intro w hSw; (try dsimp only at hSw); go_simp; rw [IntKind.wrap_i64]; omega)
        try simp only [Act.put, List.setIfInBounds_toArray, List.set_cons_zero, List.set_cons_succ]
        refine tkC 3 38 (.pointer (some ⟨w1.heap.size, 11, none⟩)) hHeld rfl ?_
        try simp only [Act.put, List.setIfInBounds_toArray, List.set_cons_zero, List.set_cons_succ]
        refine tkC 5 40 (.agg #[.slice aw ws.length cw, .int .i64 semi, .int .i64 toh, .int .i64 top, .bool cyc, .int .i64 scan, .int .i64 old, .int .i64 copied, .int .i64 serial, .slice ar rs.length cr]) hHeld rfl ?_ (by intro V hSw; have q0 := hSw 0; have q1 := hSw 1; have q2 := hSw 2; have q3 := hSw 3; have q4 := hSw 4; have q5 := hSw 5; have q6 := hSw 6; have q7 := hSw 7; have q8 := hSw 8; have q9 := hSw 9; simp at q0 q1 q2 q3 q4 q5 q6 q7 q8 q9; go_simp)
        try simp only [Act.put, List.setIfInBounds_toArray, List.set_cons_zero, List.set_cons_succ]
        refine tkC 6 41 (.int .i64 (P : Int)) hHeld rfl ?_
        try simp only [Act.put, List.setIfInBounds_toArray, List.set_cons_zero, List.set_cons_succ]
        have HWB : Hid (∀ V, Below w8.heap.size w8 V → Below w1.heap.size wr V) := fun V hV => B8.out.trans (hV.mono (by omega))
        refine wpAnyH_ready (rs := [4, 7]) (by kernel_rfl) (by simp) ?_
        refine AllReadyH.cons (o := { dst := some 39, op := _, type := _, pos := _, after := _, guard := _ }) rfl (fun KK hKK => ?_) (AllReadyH.cons (o := { dst := some 42, op := _, type := _, pos := _, after := _, guard := _ }) rfl (fun KK hKK => ?_) AllReadyH.nil)
        · go_simp
          have hN := hHeld
          clear hHeld
          refine hKK.out _ _ hN (fun hHeld => ?_)
          clear hKK KK hN
          try simp only [Act.put, List.setIfInBounds_toArray, List.set_cons_zero, List.set_cons_succ]
          refine wpAnyH_ready (rs := [7]) (by kernel_rfl) (by simp) ?_
          refine AllReadyH.cons (o := { dst := some 42, op := _, type := _, pos := _, after := _, guard := _ }) rfl (fun KK hKK => ?_) AllReadyH.nil
          go_simp
          go_at_call 51
          refine (HWD.out _ (HWB.out _ (Below.refl _ _).drew)).mono ?_
          rintro e w9 ⟨rfl, b9⟩
          have b9' : Below w8.heap.size w8 w9 := below_next (Below.refl _ _).drew b9
          have r9 : w9.cell? ⟨w1.heap.size, 11, none⟩ = some (.int .i64 fb) := by rw [b9'.cell (p := ⟨w1.heap.size, 11, none⟩) lc8]; exact r8
          have f9 : w9.frozen? ⟨w1.heap.size, 11, none⟩ = false := by rw [(bcell b9').2 _ _ lc8]; exact f8
          have H9 := KS _ b9'
          clear b9 hHeld
          refine hKK.out _ _ H9 (fun hHeld => ?_)
          clear hKK KK
          try simp only [Act.put, List.setIfInBounds_toArray, List.set_cons_zero, List.set_cons_succ]
          refine tkC 8 43 (.int .i64 (fb + (Sz + 1))) hHeld rfl ?_ (by intro w hSw; (try dsimp only at hSw); go_simp; rw [IntKind.wrap_i64]; omega)
          try simp only [Act.put, List.setIfInBounds_toArray, List.set_cons_zero, List.set_cons_succ]
          refine tkC 9 44 (.pointer (some ⟨w1.heap.size, 11, none⟩)) hHeld rfl ?_
          try simp only [Act.put, List.setIfInBounds_toArray, List.set_cons_zero, List.set_cons_succ]
          refine wpAnyH_ready (rs := [10]) (by kernel_rfl) (by simp) ?_
          refine AllReadyH.cons (o := { dst := none, op := _, type := _, pos := _, after := _, guard := _ }) rfl (fun KK hKK => ?_) AllReadyH.nil
          go_simp
          have hN : ∀ i, (w9.setCell ⟨w1.heap.size, 11, none⟩ (.int .i64 (fb + (Sz + 1)))).cell? ⟨w.heap.size, i, none⟩ = (#[.slice aw ws.length cw, .int .i64 semi, .int .i64 toh, .int .i64 top, .bool cyc, .int .i64 scan, .int .i64 old, .int .i64 copied, .int .i64 serial, .slice ar rs.length cr] : Array Value)[i]? := fun i => by rw [World.cell?_setCell_other _ _ _ _ (fun e => nB (congrArg Addr.block e))]; exact hHeld i
          clear hHeld
          refine hKK.out _ _ hN (fun _ => ?_)
          clear hKK KK
          try simp only [Act.put, List.setIfInBounds_toArray, List.set_cons_zero, List.set_cons_succ]
          refine wpAnyH_done (by kernel_rfl) ?_ _
          obtain ⟨P1, P2⟩ := HP.out wh w9 HBh.out (by rw [← HW8.out]; exact b9')
          rw [show fb + Sz + 1 = fb + (Sz + 1) by omega] at P1 P2
          have B10 : Below w1.heap.size wr (w9.setCell ⟨w1.heap.size, 11, none⟩ (.int .i64 (fb + (Sz + 1)))) := (B8.out.trans (b9'.mono (by omega))).setCell (p := ⟨w1.heap.size, 11, none⟩) (Nat.le_refl _) _
          obtain ⟨w10, hw10⟩ : ∃ V, V = w9.setCell ⟨w1.heap.size, 11, none⟩ (.int .i64 (fb + (Sz + 1))) := ⟨_, rfl⟩
          rw [← hw10] at P1 P2 B10 hN ⊢
          have HP1 : Hid (w10.rowIs w1.heap.size 3 12 (fun i => .int .i64 (cen ws (L.take (k + 1)) i))) := P1
          have HP2 : Hid (Apart w1.heap.size (w1.heap.size + 1) w3 w10) := P2
          have HB10 : Hid (Below w1.heap.size wr w10) := B10
          clear hw10 P1 P2 B10 b9' f9 KS k8 r8 f8 B8 HW8 HWB HP HBh
          go_wp2_with (go_at_call 51; refine (HWD.out _ HB10.out).mono ?_; rintro e w11 ⟨rfl, b11⟩)
          go_roundw
          case rel => exact ⟨k + 1, P + Sz.toNat + 1, by omega, by omega, by first | go_num | (congr 1; omega), HCN, HP1.out.of_block (b11.block _ HP1.out.lt), HP2.out.trans (below_apart b11 (Nat.le_refl _) _ _)⟩
          case measure => simp [intOf]; omega
        · go_simp
          go_at_call 51
          refine (HWD.out _ (HWB.out _ (Below.refl _ _).drew)).mono ?_
          rintro e w9 ⟨rfl, b9⟩
          have b9' : Below w8.heap.size w8 w9 := below_next (Below.refl _ _).drew b9
          have r9 : w9.cell? ⟨w1.heap.size, 11, none⟩ = some (.int .i64 fb) := by rw [b9'.cell (p := ⟨w1.heap.size, 11, none⟩) lc8]; exact r8
          have f9 : w9.frozen? ⟨w1.heap.size, 11, none⟩ = false := by rw [(bcell b9').2 _ _ lc8]; exact f8
          have H9 := KS _ b9'
          clear b9 hHeld
          refine hKK.out _ _ H9 (fun hHeld => ?_)
          clear hKK KK
          try simp only [Act.put, List.setIfInBounds_toArray, List.set_cons_zero, List.set_cons_succ]
          refine wpAnyH_ready (rs := [4]) (by kernel_rfl) (by simp) ?_
          refine AllReadyH.cons (o := { dst := some 39, op := _, type := _, pos := _, after := _, guard := _ }) rfl (fun KK hKK => ?_) AllReadyH.nil
          go_simp
          have hN := hHeld
          clear hHeld
          refine hKK.out _ _ hN (fun hHeld => ?_)
          clear hKK KK hN
          try simp only [Act.put, List.setIfInBounds_toArray, List.set_cons_zero, List.set_cons_succ]
          refine tkC 8 43 (.int .i64 (fb + (Sz + 1))) hHeld rfl ?_ (by intro w hSw; (try dsimp only at hSw); go_simp; rw [IntKind.wrap_i64]; omega)
          try simp only [Act.put, List.setIfInBounds_toArray, List.set_cons_zero, List.set_cons_succ]
          refine tkC 9 44 (.pointer (some ⟨w1.heap.size, 11, none⟩)) hHeld rfl ?_
          try simp only [Act.put, List.setIfInBounds_toArray, List.set_cons_zero, List.set_cons_succ]
          refine wpAnyH_ready (rs := [10]) (by kernel_rfl) (by simp) ?_
          refine AllReadyH.cons (o := { dst := none, op := _, type := _, pos := _, after := _, guard := _ }) rfl (fun KK hKK => ?_) AllReadyH.nil
          go_simp
          have hN : ∀ i, (w9.setCell ⟨w1.heap.size, 11, none⟩ (.int .i64 (fb + (Sz + 1)))).cell? ⟨w.heap.size, i, none⟩ = (#[.slice aw ws.length cw, .int .i64 semi, .int .i64 toh, .int .i64 top, .bool cyc, .int .i64 scan, .int .i64 old, .int .i64 copied, .int .i64 serial, .slice ar rs.length cr] : Array Value)[i]? := fun i => by rw [World.cell?_setCell_other _ _ _ _ (fun e => nB (congrArg Addr.block e))]; exact hHeld i
          clear hHeld
          refine hKK.out _ _ hN (fun _ => ?_)
          clear hKK KK
          try simp only [Act.put, List.setIfInBounds_toArray, List.set_cons_zero, List.set_cons_succ]
          refine wpAnyH_done (by kernel_rfl) ?_ _
          obtain ⟨P1, P2⟩ := HP.out wh w9 HBh.out (by rw [← HW8.out]; exact b9')
          rw [show fb + Sz + 1 = fb + (Sz + 1) by omega] at P1 P2
          have B10 : Below w1.heap.size wr (w9.setCell ⟨w1.heap.size, 11, none⟩ (.int .i64 (fb + (Sz + 1)))) := (B8.out.trans (b9'.mono (by omega))).setCell (p := ⟨w1.heap.size, 11, none⟩) (Nat.le_refl _) _
          obtain ⟨w10, hw10⟩ : ∃ V, V = w9.setCell ⟨w1.heap.size, 11, none⟩ (.int .i64 (fb + (Sz + 1))) := ⟨_, rfl⟩
          rw [← hw10] at P1 P2 B10 hN ⊢
          have HP1 : Hid (w10.rowIs w1.heap.size 3 12 (fun i => .int .i64 (cen ws (L.take (k + 1)) i))) := P1
          have HP2 : Hid (Apart w1.heap.size (w1.heap.size + 1) w3 w10) := P2
          have HB10 : Hid (Below w1.heap.size wr w10) := B10
          clear hw10 P1 P2 B10 b9' f9 KS k8 r8 f8 B8 HW8 HWB HP HBh
          go_wp2_with (go_at_call 51; refine (HWD.out _ HB10.out).mono ?_; rintro e w11 ⟨rfl, b11⟩)
          go_roundw
          case rel => exact ⟨k + 1, P + Sz.toNat + 1, by omega, by omega, by first | go_num | (congr 1; omega), HCN, HP1.out.of_block (b11.block _ HP1.out.lt), HP2.out.trans (below_apart b11 (Nat.le_refl _) _ _)⟩
          case measure => simp [intOf]; omega
    · have hk' : k = L.length := by omega
      have hPT' : P = T := by
        have h := hch.out
        rw [hk', List.drop_length] at h
        simp only [Chain] at h
        omega
      have hge : top ≤ (P : Int) := by have := HTT.out; omega
      have HR : Hid (wr.rowIs w1.heap.size 3 12 (fun j => .int .i64 (cen ws L j))) := by
        rw [hk', List.take_length] at hR
        exact hR
      clear hR hA hk' hPT' hch
      go_wp2
      go_ret
      exact ⟨_, rfl, ⟨_, _, rfl, .inr ⟨w1.heap.size, 12, _, rfl, by omega, HR.out.lt, Nat.le_refl _, HR.out, fun _ _ => rfl⟩⟩, BW.out⟩
set_option maxHeartbeats 2000000 in
theorem implCensus_no (aw : Option Addr) (cw : Nat) (ws : List Int) (semi toh top : Int) (cyc : Bool) (scan old copied serial : Int) (ar : Option Addr) (cr : Nat) (rs : List (Int × Int)) (y : Nat → Int) (Tr : Nat) (w : World) (hs : Sl w (.slice aw ws.length cw) ws) (hcw : ws.length ≤ cw) (hn : ws.length ≤ 1048576) (hw : Words64 ws) (hrt : SlF Tr w (.slice ar rs.length cr) rs.length (2 * rs.length) (fun i => .int .i64 (y i))) (hn2 : rs.length ≤ 1048576) (hok : ¬ ArOk ws semi toh top cyc scan old copied serial y rs.length) :
    Calls Tryz.prog 31 #[.agg #[.slice aw ws.length cw, .int .i64 semi, .int .i64 toh, .int .i64 top, .bool cyc, .int .i64 scan, .int .i64 old, .int .i64 copied, .int .i64 serial, .slice ar rs.length cr]] w fun e w' => ∃ v, e = .returned v ∧ OwnF w.heap.size w'.heap.size 3 w' v 0 0 (fun i => .int .i64 ((([] : List Nat).getD i 0 : Nat) : Int)) ∧ Below w.heap.size w w' := by
  have HS : Hid (Sl w (.slice aw ws.length cw) ws) := hs
  have HR : Hid (SlF w.heap.size w (.slice ar rs.length cr) rs.length (2 * rs.length) (fun i => .int .i64 (y i))) := hrt.here
  have HQ : Hid (¬ ArOk ws semi toh top cyc scan old copied serial y rs.length) := hok
  clear hs hrt hok
  go_enter Tryz.func31, Tryz.ntmps31
  go_wp2_with fail
  refine (implArenaOk_at _ _ _ _ _ _ _ _ _ _ _ _ _ _ y w.heap.size _ (HS.out.below (below_first (Below.refl _ _))) hcw hn hw (HR.out.below (below_first (Below.refl _ _)) (Nat.le_refl _)) hn2).mono ?_
  rintro e w1 ⟨q, rfl, hq, b1⟩
  obtain rfl : q = false := by
    cases q with
    | false => rfl
    | true => exact absurd (hq.1 rfl) HQ.out
  have B1 := below_first b1
  clear hq b1
  go_wp2
  go_ret
  exact ⟨_, rfl, ⟨_, _, rfl, .inl rfl⟩, B1⟩
end Go.Proofs.YtmckcnmlhgpnhaaGreat
