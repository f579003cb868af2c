/- The model's Census. -/
import Derived.Test.YtmckcnmlhgpnhaaGreatKCnA
import Derived.Test.YtmckcnmlhgpnhaaGreatKHeadS
import Derived.Test.YtmckcnmlhgpnhaaGreatKMcBox
import Derived.Deep.RegionHeld3
import Derived.Deep.CutRange
namespace Go.Proofs.YtmckcnmlhgpnhaaGreat
set_option maxRecDepth 20000
open Go.RowKit Go.Maps
set_option linter.unusedSimpArgs false
set_option linter.unusedVariables false

/-- An operation of a drawn region is taken: wanted, or not. -/
theorem tkC {P : Program} {md : Region.Mode} {ops : Array Oper} {Q : Exit → Act → World → Prop} {S : World → Prop} {fuel : Nat} {listed : Array Bool} {a : Act} {w : World} {o : Op} {ty : TypeId} {ps : String} {af : Array Edge} {gd : Option (Nat × Bool)} (i d : Nat) (v : Value) (hS : S w) (hi : ops[i]? = some { dst := some d, op := o, type := ty, pos := ps, after := af, guard := gd })
    (h : wpAnyH P md ops Q S fuel (listed.setIfInBounds i true) (a.put (some d) v) w)
    (hv : ∀ w, S w → (execOp a.eval { dst := some d, op := o, type := ty, pos := ps, after := af, guard := gd }).run P w = .ok (.value v) w := by intro w hSw; (try dsimp only at hSw); go_simp)
    (hw : Region.wanted { dst := some d, op := o, type := ty, pos := ps, after := af, guard := gd } (yielded ops a.tmps) = true := by kernel_rfl)
    (hs : Region.noSelect ops = true := by kernel_rfl) (hf : Region.free md ops listed i = true := by kernel_rfl) (hr : (Region.ready md ops listed).contains i = true := by kernel_rfl)
    (hQ : ∀ c a w, Q (.panic c) (a.put (some d) v) w → Q (.panic c) a w := by exact fun _ _ _ h => h) : wpAnyH P md ops Q S (fuel + 1) listed a w :=
  wpAnyH_take hi hs hf hr hQ (Or.inl ⟨hw, hv⟩) hS h
set_option maxHeartbeats 4000000 in
theorem specCensus_yes (aw : Option Addr) (cw : Nat) (ws : List Int) (semi toh top : Int) (cyc : Bool) (scan old copied serial : Int) (ar : Option Addr) (cr : Nat) (rs : List (Int × Int)) (y : Nat → Int) (Tr : Nat) (w : World) (S T : Nat) (L : List Nat) (hs : Sl w (.slice aw ws.length cw) ws) (hn : ws.length ≤ 1048576) (hw : Words64 ws) (hrt : SlF Tr w (.slice ar rs.length cr) rs.length (2 * rs.length) (fun i => .int .i64 (y i))) (hn2 : rs.length ≤ 1048576) (hok : ArOk ws semi toh top cyc scan old copied serial y rs.length) (hS : toh * semi + 1 = S) (hT : top = T) (hTn : T ≤ ws.length) (hL : Chain (nx1 ws serial) S T L) :
    Calls Tryz.prog 30 #[.agg #[.slice aw ws.length cw, .int .i64 semi, .int .i64 toh, .int .i64 top, .bool cyc, .int .i64 scan, .int .i64 old, .int .i64 copied, .int .i64 serial, .slice ar rs.length cr]] w fun e w' => ∃ v, e = .returned v ∧ OwnF w.heap.size w'.heap.size 3 w' v 12 12 (fun i => .int .i64 (cen ws L i)) ∧ Below w.heap.size w w' := by
  have hm1 := makeInts_c 12 (by omega) (by omega)
  have HPL : Hid (∀ k, k < L.length → ∃ p, L.getD k 0 = p ∧ p < ws.length ∧ 1 ≤ rdK (wordAt ws p) ∧ rdK (wordAt ws p) ≤ 6) := fun k hk => by
    obtain ⟨h1, h2, s, h3, h4⟩ := hL.mem (L.getD k 0) (by simp [hk])
    have h5 := (sOk_iff _ _).1 (rd_sOk (nx1_some h3).1)
    unfold SOk at h5
    exact ⟨_, rfl, by omega, by omega, by omega⟩
  have hLn : L.length ≤ ws.length := Nat.le_trans (chain_length hL) (by omega)
  have hLn' : (L.length : Int) ≤ 1048576 := by omega
  have HS : Hid (Sl w (.slice aw ws.length cw) ws) := hs
  have HR : Hid (SlF w.heap.size w (.slice ar rs.length cr) rs.length (2 * rs.length) (fun i => .int .i64 (y i))) := hrt.here
  have HQ : Hid (ArOk ws semi toh top cyc scan old copied serial y rs.length) := hok
  have HOB : Hid (∀ W, Below w.heap.size w W → _) := fun W (hW : Below w.heap.size w W) => specObjects_yes aw cw ws semi toh top cyc scan old copied serial ar cr rs y w.heap.size W S T L (hs.below hW) hn hw (hrt.here.below hW (Nat.le_refl _)) hn2 hok hS hT hTn hL
  clear hs hrt hok hS hL hT
  go_enter Tryz.func30, Tryz.ntmps30
  go_wp2_with fail
  refine (specArenaOk_at _ _ _ _ _ _ _ _ _ _ _ _ _ _ y w.heap.size _ (HS.out.below (below_first (Below.refl _ _))) hn hw (HR.out.below (below_first (Below.refl _ _)) (Nat.le_refl _)) hn2).mono ?_
  rintro e w1 ⟨q, rfl, hq, b1⟩
  obtain rfl := hq.2 HQ.out
  have B1 := below_first b1
  have k1 := one_cells b1 (by simp)
  have z1 := size_first b1
  clear b1 hq
  go_upto_region 4 with fail
  clear hm1
  obtain ⟨w2, hw2⟩ : ∃ V, V = w1.alloc (.cells (madeCells #[.int .i64 0] 12) 3) := ⟨_, rfl⟩
  rw [← hw2]
  have b2 : Below w1.heap.size w1 w2 := by rw [hw2]; exact (Below.refl _ _).alloc (Nat.le_refl _) _
  have z2 : w2.heap.size = w1.heap.size + 1 := by rw [hw2]; simp
  have R2 : Hid (w2.rowIs w1.heap.size 3 12 (fun j => .int .i64 (cen ws [] j))) := by
    rw [hw2]
    exact (World.rowIs_made w1 (.int .i64 0) 12 3).congr fun _ _ => rfl
  have B2 := below_next B1 b2
  have k2 := has_below k1 b2 z1
  have HZ2 : Hid (w2.heap.size = w1.heap.size + 1) := z2
  have z2' : w1.heap.size < w2.heap.size := by omega
  clear hw2 b2 z2 k1 B1
  go_wp2_with fail
  refine (HOB.out _ B2).mono ?_
  rintro e w3 ⟨v3, rfl, o3, b3⟩
  obtain ⟨a3, c3, rfl⟩ := o3.sl.head
  have B3 : Hid (Below w.heap.size w w3) := below_next B2 b3
  have k3 : Hid (∀ i, w3.cell? ⟨w.heap.size, i, none⟩ = (#[.slice aw ws.length cw, .int .i64 semi, .int .i64 toh, .int .i64 top, .bool cyc, .int .i64 scan, .int .i64 old, .int .i64 copied, .int .i64 serial, .slice ar rs.length cr] : Array Value)[i]?) := has_below k2 b3 (by omega)
  have R3 : Hid (w3.rowIs w1.heap.size 3 12 (fun j => .int .i64 (cen ws [] j))) := R2.out.of_block (b3.block _ (by omega))
  have O3 : Hid (OwnF w2.heap.size w3.heap.size 3 w3 (.slice a3 L.length c3) L.length L.length (fun i => .int .i64 ((L.getD i 0 : Nat) : Int))) := o3
  have z3 := b3.size
  clear o3 b3 k2 R2 B2 HOB HQ HR
  go_wp2_with fail
  go_loopw [5] (fun i wr => ∃ k : Nat, k ≤ L.length ∧ i = .int .i64 k ∧ wr.rowIs w1.heap.size 3 12 (fun j => .int .i64 (cen ws (L.take k) j)) ∧ Apart w1.heap.size (w1.heap.size + 1) w3 wr) (fun i _ => L.length - (intOf i).toNat)
  case atStart => exact ⟨0, Nat.zero_le _, rfl, R3.out, Apart.refl _ _ _⟩
  case round =>
    obtain ⟨k, hk, rfl, hR, hA⟩ := hrel
    have HB : Hid (Below w1.heap.size w3 wr) := hA.below (Nat.le_refl _) (by omega)
    have BW : Hid (Below w.heap.size w wr) := B3.out.trans (HB.out.mono (by omega))
    by_cases hlt : k < L.length
    · have hlt' : (k : Int) < (L.length : Int) := by omega
      obtain ⟨p, hp, hpl, hK1, hK6⟩ := HPL.out k hlt
      obtain ⟨bl, ol, cl, hv, _, lbl, hcl⟩ := (O3.out.apart hA (.inl (by omega))).sl.parts (k := k) hlt
      simp only [Value.slice.injEq] at hv
      obtain ⟨rfl, _, rfl⟩ := hv
      have x0 : wr.cell? ⟨bl, ol + k, none⟩ = some (.int .i64 (p : Int)) := by rw [hcl k hlt, hp]
      have kr := has_below k3.out HB.out z1
      have zr := hA.size
      have HT : Hid (∀ j, cen ws (L.take (k + 1)) j = cenP ws p (cen ws (L.take k)) j) := fun j => by rw [cen_take ws L hlt, hp]
      have HBD : Hid (∀ j, 0 ≤ cen ws (L.take k) j ∧ cen ws (L.take k) j ≤ 257 * 1048576) := fun j => by
        have := cen_bound ws (L.take k) j
        have := List.length_take_le k L
        omega
      have HLK : Hid (∀ W, Below wr.heap.size wr W → _) := fun W (hW : Below wr.heap.size wr W) => l2Look_any aw cw ws semi toh top cyc scan old copied serial ar cr rs p W (HS.out.below (below_next BW.out hW)) hn hw hpl
      have hsb := rdS_bound (wordAt ws p)
      have HR : Hid (wr.rowIs w1.heap.size 3 12 (fun j => .int .i64 (cen ws (L.take k) j))) := hR
      have HA : Hid (Apart w1.heap.size (w1.heap.size + 1) w3 wr) := hA
      obtain ⟨f, hf⟩ : ∃ f, f = cen ws (L.take k) := ⟨_, rfl⟩
      obtain ⟨g, hg⟩ : ∃ g, g = cen ws (L.take (k + 1)) := ⟨_, rfl⟩
      rw [← hf] at HT HBD HR
      rw [← hg] at HT
      have HG : Hid (g = cen ws (L.take (k + 1))) := hg
      unfold cenP at HT
      generalize rdK (wordAt ws p) = K at HT HLK hK1 hK6
      generalize rdS (wordAt ws p) = Sz at HT HLK hsb
      generalize rdN (wordAt ws p) = Nn at HLK
      have KP : ∀ V, Below wr.heap.size wr V → (Below wr.heap.size wr V ∧ (∀ i, V.cell? ⟨w.heap.size, i, none⟩ = (#[.slice aw ws.length cw, .int .i64 semi, .int .i64 toh, .int .i64 top, .bool cyc, .int .i64 scan, .int .i64 old, .int .i64 copied, .int .i64 serial, .slice ar rs.length cr] : Array Value)[i]?) ∧ V.cell? ⟨bl, ol + k, none⟩ = some (.int .i64 (p : Int))) := fun V hV => ⟨hV, has_below kr hV (by omega), by rw [hV.cell (p := ⟨bl, ol + k, none⟩) lbl]; exact x0⟩
      have bd' := (Below.refl wr.heap.size wr).drew
      clear hR hA hf hg hp hcl O3 k3 R3 HPL
      go_upto_region 8 with fail
      go_cut [6] from 19 to 25 (fun s6 wc => ∃ hb : Nat, s6 = .pointer (some ⟨hb, 0, none⟩) ∧ hb < wc.heap.size ∧ wr.heap.size ≤ hb ∧ wc.cell? ⟨hb, 0, none⟩ = some (.int .i64 K) ∧ wc.cell? ⟨hb, 1, none⟩ = some (.int .i64 Sz) ∧ Below wr.heap.size wr wc)
      case first =>
        refine wp_region_held_drew (S := fun V => Below wr.heap.size wr V ∧ (∀ i, V.cell? ⟨w.heap.size, i, none⟩ = (#[.slice aw ws.length cw, .int .i64 semi, .int .i64 toh, .int .i64 top, .bool cyc, .int .i64 scan, .int .i64 old, .int .i64 copied, .int .i64 serial, .slice ar rs.length cr] : Array Value)[i]?) ∧ V.cell? ⟨bl, ol + k, none⟩ = some (.int .i64 (p : Int))) (by kernel_rfl) (KP _ bd') (fun hHeld => ?_)
        refine tkC 0 19 (.agg #[.slice aw ws.length cw, .int .i64 semi, .int .i64 toh, .int .i64 top, .bool cyc, .int .i64 scan, .int .i64 old, .int .i64 copied, .int .i64 serial, .slice ar rs.length cr]) hHeld rfl ?_ (by intro V hSw; have q0 := hSw.2.1 0; have q1 := hSw.2.1 1; have q2 := hSw.2.1 2; have q3 := hSw.2.1 3; have q4 := hSw.2.1 4; have q5 := hSw.2.1 5; have q6 := hSw.2.1 6; have q7 := hSw.2.1 7; have q8 := hSw.2.1 8; have q9 := hSw.2.1 9; simp at q0 q1 q2 q3 q4 q5 q6 q7 q8 q9; go_simp)
        try simp only [Act.put, List.setIfInBounds_toArray, List.set_cons_zero, List.set_cons_succ]
        refine tkC 1 20 (.slice (some ⟨bl, ol, none⟩) L.length c3) hHeld rfl ?_
        try simp only [Act.put, List.setIfInBounds_toArray, List.set_cons_zero, List.set_cons_succ]
        refine tkC 2 21 (.int .i64 (k : Int)) hHeld rfl ?_
        try simp only [Act.put, List.setIfInBounds_toArray, List.set_cons_zero, List.set_cons_succ]
        refine tkC 3 22 (.pointer (some ⟨bl, ol + k, none⟩)) hHeld rfl ?_
        try simp only [Act.put, List.setIfInBounds_toArray, List.set_cons_zero, List.set_cons_succ]
        refine tkC 4 23 (.int .i64 (p : Int)) hHeld rfl ?_ (by intro V hSw; have q := hSw.2.2; go_simp)
        try simp only [Act.put, List.setIfInBounds_toArray, List.set_cons_zero, List.set_cons_succ]
        refine wpAnyH_ready (rs := [5, 6]) (by kernel_rfl) (by simp) ?_
        refine AllReadyH.cons (o := { dst := some 24, op := _, type := _, pos := _, after := _, guard := _ }) rfl (fun KK hKK => ?_) (AllReadyH.cons (o := { dst := some 6, op := _, type := _, pos := _, after := _, guard := _ }) rfl (fun KK hKK => ?_) AllReadyH.nil)
        · go_simp
          go_at_call 43
          refine (HLK.out _ hHeld.1).mono ?_
          rintro e wl ⟨rfl, bb⟩
          have hN := below_next (w := wr) hHeld.1 bb
          clear bb hHeld
          refine hKK.out _ _ (KP _ hN) (fun hHeld => ?_)
          clear hKK KK hN
          try simp only [Act.put, List.setIfInBounds_toArray, List.set_cons_zero, List.set_cons_succ]
          refine wpAnyH_ready (rs := [6]) (by kernel_rfl) (by simp) ?_
          refine AllReadyH.cons (o := { dst := some 6, op := _, type := _, pos := _, after := _, guard := _ }) rfl (fun KK hKK => ?_) AllReadyH.nil
          go_simp
          have hN := hHeld.1.alloc hHeld.1.size (.cells #[.int .i64 0, .int .i64 0, .int .i64 0] 78)
          have xb : BoxIs (wl.alloc (.cells #[.int .i64 0, .int .i64 0, .int .i64 0] 78)) wl.heap.size 78 #[.int .i64 0, .int .i64 0, .int .i64 0] := BoxIs.new wl 78 #[.int .i64 0, .int .i64 0, .int .i64 0]
          have gb := hHeld.1.size
          clear hHeld
          refine hKK.out _ _ (KP _ hN) (fun hHeld => ?_)
          clear hKK KK hN
          try simp only [Act.put, List.setIfInBounds_toArray, List.set_cons_zero, List.set_cons_succ]
          obtain ⟨wa, hV⟩ : ∃ V, V = wl.alloc (.cells #[.int .i64 0, .int .i64 0, .int .i64 0] 78) := ⟨_, rfl⟩
          rw [← hV] at hHeld xb ⊢
          clear hV
          have kb := xb.cell
          have fb := xb.frozen
          refine wpAnyH_ready (rs := [7]) (by kernel_rfl) (by simp) ?_
          refine AllReadyH.cons (o := { dst := none, op := _, type := _, pos := _, after := _, guard := _ }) rfl (fun KK hKK => ?_) AllReadyH.nil
          have kb0 := kb 0
          have kb1 := kb 1
          have kb2 := kb 2
          simp at kb0 kb1 kb2
          go_simp
          have hN := ((hHeld.1.setCell (p := ⟨wl.heap.size, 0, none⟩) gb (.int .i64 K)).setCell (p := ⟨wl.heap.size, 1, none⟩) gb (.int .i64 Sz)).setCell (p := ⟨wl.heap.size, 2, none⟩) gb (.int .i64 Nn)
          clear hHeld kb fb kb0 kb1 kb2
          refine hKK.out _ _ (KP _ hN) (fun hHeld => ?_)
          clear hKK KK
          try simp only [Act.put, List.setIfInBounds_toArray, List.set_cons_zero, List.set_cons_succ]
          have xc := ((xb.set 0 (.int .i64 K)).set 1 (.int .i64 Sz)).set 2 (.int .i64 Nn)
          have c0 := xc.cell 0
          have c1 := xc.cell 1
          simp at c0 c1
          have lc := xc.lt
          obtain ⟨wz, hV⟩ : ∃ V, V = ((wa.setCell ⟨wl.heap.size, 0, none⟩ (.int .i64 K)).setCell ⟨wl.heap.size, 1, none⟩ (.int .i64 Sz)).setCell ⟨wl.heap.size, 2, none⟩ (.int .i64 Nn) := ⟨_, rfl⟩
          rw [← hV] at hHeld c0 c1 lc ⊢
          clear hV xb xc
          refine wpAnyH_done (by kernel_rfl) ?_ _
          go_wp2_with fail
          go_meet
          exact ⟨_, rfl, lc, gb, c0, c1, hHeld.1⟩
        · go_simp
          have hN := hHeld.1.alloc hHeld.1.size (.cells #[.int .i64 0, .int .i64 0, .int .i64 0] 78)
          have xb : BoxIs ((wr.alloc (.cells #[.int .i64 0, .int .i64 0, .int .i64 0] 78)).drew) wr.heap.size 78 #[.int .i64 0, .int .i64 0, .int .i64 0] := BoxIs.new wr 78 #[.int .i64 0, .int .i64 0, .int .i64 0]
          have gb := hHeld.1.size
          clear hHeld
          refine hKK.out _ _ (KP _ hN) (fun hHeld => ?_)
          clear hKK KK hN
          try simp only [Act.put, List.setIfInBounds_toArray, List.set_cons_zero, List.set_cons_succ]
          obtain ⟨wa, hV⟩ : ∃ V, V = (wr.alloc (.cells #[.int .i64 0, .int .i64 0, .int .i64 0] 78)).drew := ⟨_, rfl⟩
          rw [← hV] at hHeld xb ⊢
          clear hV
          refine wpAnyH_ready (rs := [5]) (by kernel_rfl) (by simp) ?_
          refine AllReadyH.cons (o := { dst := some 24, op := _, type := _, pos := _, after := _, guard := _ }) rfl (fun KK hKK => ?_) AllReadyH.nil
          go_simp
          go_at_call 43
          refine (HLK.out _ hHeld.1).mono ?_
          rintro e wl ⟨rfl, bb⟩
          have hN := below_next (w := wr) hHeld.1 bb
          have xb := xb.below bb xb.lt
          clear bb hHeld
          refine hKK.out _ _ (KP _ hN) (fun hHeld => ?_)
          clear hKK KK hN
          try simp only [Act.put, List.setIfInBounds_toArray, List.set_cons_zero, List.set_cons_succ]
          have kb := xb.cell
          have fb := xb.frozen
          refine wpAnyH_ready (rs := [7]) (by kernel_rfl) (by simp) ?_
          refine AllReadyH.cons (o := { dst := none, op := _, type := _, pos := _, after := _, guard := _ }) rfl (fun KK hKK => ?_) AllReadyH.nil
          have kb0 := kb 0
          have kb1 := kb 1
          have kb2 := kb 2
          simp at kb0 kb1 kb2
          go_simp
          have hN := ((hHeld.1.setCell (p := ⟨wr.heap.size, 0, none⟩) gb (.int .i64 K)).setCell (p := ⟨wr.heap.size, 1, none⟩) gb (.int .i64 Sz)).setCell (p := ⟨wr.heap.size, 2, none⟩) gb (.int .i64 Nn)
          clear hHeld kb fb kb0 kb1 kb2
          refine hKK.out _ _ (KP _ hN) (fun hHeld => ?_)
          clear hKK KK
          try simp only [Act.put, List.setIfInBounds_toArray, List.set_cons_zero, List.set_cons_succ]
          have xc := ((xb.set 0 (.int .i64 K)).set 1 (.int .i64 Sz)).set 2 (.int .i64 Nn)
          have c0 := xc.cell 0
          have c1 := xc.cell 1
          simp at c0 c1
          have lc := xc.lt
          obtain ⟨wz, hV⟩ : ∃ V, V = ((wl.setCell ⟨wr.heap.size, 0, none⟩ (.int .i64 K)).setCell ⟨wr.heap.size, 1, none⟩ (.int .i64 Sz)).setCell ⟨wr.heap.size, 2, none⟩ (.int .i64 Nn) := ⟨_, rfl⟩
          rw [← hV] at hHeld c0 c1 lc ⊢
          clear hV xb xc
          refine wpAnyH_done (by kernel_rfl) ?_ _
          go_wp2_with fail
          go_meet
          exact ⟨_, rfl, lc, gb, c0, c1, hHeld.1⟩
      case rest =>
        obtain ⟨hb, rfl, lh, gh, c0, c1, hBc⟩ := hcut
        have HRc : Hid (wc.rowIs w1.heap.size 3 12 (fun j => .int .i64 (f j))) := HR.out.of_block (hBc.block _ HR.out.lt)
        have HAc : Hid (Apart w1.heap.size (w1.heap.size + 1) w3 wc) := HA.out.trans (below_apart hBc (Nat.le_refl _) _ _)
        have nb : hb ≠ w1.heap.size := by have := HR.out.lt; omega
        clear HR HA HB BW kr KP bd' x0 HLK hBc B3 gh HS
        rcases (by omega : K = 1 ∨ K = 2 ∨ K = 3 ∨ K = 4 ∨ K = 5 ∨ K = 6) with rfl | rfl | rfl | rfl | rfl | rfl
        · have r0 := HRc.out.cell (i := 0) (by omega)
          have r1 := HRc.out.cell (i := 1) (by omega)
          have fz := HRc.out.frozen
          obtain ⟨p0, p0'⟩ := HBD.out 0
          obtain ⟨p1, p1'⟩ := HBD.out 1
          have e0 := HT.out 0
          have e1 := HT.out 1
          rw [if_pos (by omega)] at e0
          rw [if_neg (by omega), if_pos (by omega)] at e1
          have e2 : ∀ i, i ≠ 0 → i ≠ 0 + 1 → g i = f i := fun i h1 h2 => by rw [HT.out i, if_neg (by omega), if_neg (by omega)]
          have HP : Hid (((wc.setCell ⟨w1.heap.size, 0, none⟩ (.int .i64 (f 0 + 1))).setCell ⟨w1.heap.size, 1, none⟩ (.int .i64 (f 1 + Sz + 1))).rowIs w1.heap.size 3 12 (fun i => .int .i64 (cen ws (L.take (k + 1)) i))) := by
            have hp := cen_put HRc.out e0 e1 e2
            rw [HG.out] at hp
            exact hp
          have HA2 : Hid (Apart w1.heap.size (w1.heap.size + 1) w3 ((wc.setCell ⟨w1.heap.size, 0, none⟩ (.int .i64 (f 0 + 1))).setCell ⟨w1.heap.size, 1, none⟩ (.int .i64 (f 1 + Sz + 1)))) := cen_apart HAc.out
          generalize f 0 = fa at r0 p0 p0' HP HA2
          generalize f 1 = fb at r1 p1 p1' HP HA2
          clear e0 e1 e2 HRc HBD HT HG HAc
          go_wp2_with fail
          go_region
          go_wp2_with fail
          go_region
          go_wp2
          go_roundw
          case rel => exact ⟨k + 1, by omega, by go_num, HP.out, ⟨HA2.out.os, HA2.out.tape, HA2.out.output, HA2.out.size, HA2.out.block⟩⟩
          case measure => simp [intOf]; omega
        · have r0 := HRc.out.cell (i := 2) (by omega)
          have r1 := HRc.out.cell (i := 3) (by omega)
          have fz := HRc.out.frozen
          obtain ⟨p0, p0'⟩ := HBD.out 2
          obtain ⟨p1, p1'⟩ := HBD.out 3
          have e0 := HT.out 2
          have e1 := HT.out 3
          rw [if_pos (by omega)] at e0
          rw [if_neg (by omega), if_pos (by omega)] at e1
          have e2 : ∀ i, i ≠ 2 → i ≠ 2 + 1 → g i = f i := fun i h1 h2 => by rw [HT.out i, if_neg (by omega), if_neg (by omega)]
          have HP : Hid (((wc.setCell ⟨w1.heap.size, 2, none⟩ (.int .i64 (f 2 + 1))).setCell ⟨w1.heap.size, 3, none⟩ (.int .i64 (f 3 + Sz + 1))).rowIs w1.heap.size 3 12 (fun i => .int .i64 (cen ws (L.take (k + 1)) i))) := by
            have hp := cen_put HRc.out e0 e1 e2
            rw [HG.out] at hp
            exact hp
          have HA2 : Hid (Apart w1.heap.size (w1.heap.size + 1) w3 ((wc.setCell ⟨w1.heap.size, 2, none⟩ (.int .i64 (f 2 + 1))).setCell ⟨w1.heap.size, 3, none⟩ (.int .i64 (f 3 + Sz + 1)))) := cen_apart HAc.out
          generalize f 2 = fa at r0 p0 p0' HP HA2
          generalize f 3 = fb at r1 p1 p1' HP HA2
          clear e0 e1 e2 HRc HBD HT HG HAc
          go_wp2_with fail
          go_region
          go_wp2_with fail
          go_region
          go_wp2
          go_roundw
          case rel => exact ⟨k + 1, by omega, by go_num, HP.out, ⟨HA2.out.os, HA2.out.tape, HA2.out.output, HA2.out.size, HA2.out.block⟩⟩
          case measure => simp [intOf]; omega
        · have r0 := HRc.out.cell (i := 4) (by omega)
          have r1 := HRc.out.cell (i := 5) (by omega)
          have fz := HRc.out.frozen
          obtain ⟨p0, p0'⟩ := HBD.out 4
          obtain ⟨p1, p1'⟩ := HBD.out 5
          have e0 := HT.out 4
          have e1 := HT.out 5
          rw [if_pos (by omega)] at e0
          rw [if_neg (by omega), if_pos (by omega)] at e1
          have e2 : ∀ i, i ≠ 4 → i ≠ 4 + 1 → g i = f i := fun i h1 h2 => by rw [HT.out i, if_neg (by omega), if_neg (by omega)]
          have HP : Hid (((wc.setCell ⟨w1.heap.size, 4, none⟩ (.int .i64 (f 4 + 1))).setCell ⟨w1.heap.size, 5, none⟩ (.int .i64 (f 5 + Sz + 1))).rowIs w1.heap.size 3 12 (fun i => .int .i64 (cen ws (L.take (k + 1)) i))) := by
            have hp := cen_put HRc.out e0 e1 e2
            rw [HG.out] at hp
            exact hp
          have HA2 : Hid (Apart w1.heap.size (w1.heap.size + 1) w3 ((wc.setCell ⟨w1.heap.size, 4, none⟩ (.int .i64 (f 4 + 1))).setCell ⟨w1.heap.size, 5, none⟩ (.int .i64 (f 5 + Sz + 1)))) := cen_apart HAc.out
          generalize f 4 = fa at r0 p0 p0' HP HA2
          generalize f 5 = fb at r1 p1 p1' HP HA2
          clear e0 e1 e2 HRc HBD HT HG HAc
          go_wp2_with fail
          go_region
          go_wp2_with fail
          go_region
          go_wp2
          go_roundw
          case rel => exact ⟨k + 1, by omega, by go_num, HP.out, ⟨HA2.out.os, HA2.out.tape, HA2.out.output, HA2.out.size, HA2.out.block⟩⟩
          case measure => simp [intOf]; omega
        · have r0 := HRc.out.cell (i := 6) (by omega)
          have r1 := HRc.out.cell (i := 7) (by omega)
          have fz := HRc.out.frozen
          obtain ⟨p0, p0'⟩ := HBD.out 6
          obtain ⟨p1, p1'⟩ := HBD.out 7
          have e0 := HT.out 6
          have e1 := HT.out 7
          rw [if_pos (by omega)] at e0
          rw [if_neg (by omega), if_pos (by omega)] at e1
          have e2 : ∀ i, i ≠ 6 → i ≠ 6 + 1 → g i = f i := fun i h1 h2 => by rw [HT.out i, if_neg (by omega), if_neg (by omega)]
          have HP : Hid (((wc.setCell ⟨w1.heap.size, 6, none⟩ (.int .i64 (f 6 + 1))).setCell ⟨w1.heap.size, 7, none⟩ (.int .i64 (f 7 + Sz + 1))).rowIs w1.heap.size 3 12 (fun i => .int .i64 (cen ws (L.take (k + 1)) i))) := by
            have hp := cen_put HRc.out e0 e1 e2
            rw [HG.out] at hp
            exact hp
          have HA2 : Hid (Apart w1.heap.size (w1.heap.size + 1) w3 ((wc.setCell ⟨w1.heap.size, 6, none⟩ (.int .i64 (f 6 + 1))).setCell ⟨w1.heap.size, 7, none⟩ (.int .i64 (f 7 + Sz + 1)))) := cen_apart HAc.out
          generalize f 6 = fa at r0 p0 p0' HP HA2
          generalize f 7 = fb at r1 p1 p1' HP HA2
          clear e0 e1 e2 HRc HBD HT HG HAc
          go_wp2_with fail
          go_region
          go_wp2_with fail
          go_region
          go_wp2
          go_roundw
          case rel => exact ⟨k + 1, by omega, by go_num, HP.out, ⟨HA2.out.os, HA2.out.tape, HA2.out.output, HA2.out.size, HA2.out.block⟩⟩
          case measure => simp [intOf]; omega
        · have r0 := HRc.out.cell (i := 8) (by omega)
          have r1 := HRc.out.cell (i := 9) (by omega)
          have fz := HRc.out.frozen
          obtain ⟨p0, p0'⟩ := HBD.out 8
          obtain ⟨p1, p1'⟩ := HBD.out 9
          have e0 := HT.out 8
          have e1 := HT.out 9
          rw [if_pos (by omega)] at e0
          rw [if_neg (by omega), if_pos (by omega)] at e1
          have e2 : ∀ i, i ≠ 8 → i ≠ 8 + 1 → g i = f i := fun i h1 h2 => by rw [HT.out i, if_neg (by omega), if_neg (by omega)]
          have HP : Hid (((wc.setCell ⟨w1.heap.size, 8, none⟩ (.int .i64 (f 8 + 1))).setCell ⟨w1.heap.size, 9, none⟩ (.int .i64 (f 9 + Sz + 1))).rowIs w1.heap.size 3 12 (fun i => .int .i64 (cen ws (L.take (k + 1)) i))) := by
            have hp := cen_put HRc.out e0 e1 e2
            rw [HG.out] at hp
            exact hp
          have HA2 : Hid (Apart w1.heap.size (w1.heap.size + 1) w3 ((wc.setCell ⟨w1.heap.size, 8, none⟩ (.int .i64 (f 8 + 1))).setCell ⟨w1.heap.size, 9, none⟩ (.int .i64 (f 9 + Sz + 1)))) := cen_apart HAc.out
          generalize f 8 = fa at r0 p0 p0' HP HA2
          generalize f 9 = fb at r1 p1 p1' HP HA2
          clear e0 e1 e2 HRc HBD HT HG HAc
          go_wp2_with fail
          go_region
          go_wp2_with fail
          go_region
          go_wp2
          go_roundw
          case rel => exact ⟨k + 1, by omega, by go_num, HP.out, ⟨HA2.out.os, HA2.out.tape, HA2.out.output, HA2.out.size, HA2.out.block⟩⟩
          case measure => simp [intOf]; omega
        · have r0 := HRc.out.cell (i := 10) (by omega)
          have r1 := HRc.out.cell (i := 11) (by omega)
          have fz := HRc.out.frozen
          obtain ⟨p0, p0'⟩ := HBD.out 10
          obtain ⟨p1, p1'⟩ := HBD.out 11
          have e0 := HT.out 10
          have e1 := HT.out 11
          rw [if_pos (by omega)] at e0
          rw [if_neg (by omega), if_pos (by omega)] at e1
          have e2 : ∀ i, i ≠ 10 → i ≠ 10 + 1 → g i = f i := fun i h1 h2 => by rw [HT.out i, if_neg (by omega), if_neg (by omega)]
          have HP : Hid (((wc.setCell ⟨w1.heap.size, 10, none⟩ (.int .i64 (f 10 + 1))).setCell ⟨w1.heap.size, 11, none⟩ (.int .i64 (f 11 + Sz + 1))).rowIs w1.heap.size 3 12 (fun i => .int .i64 (cen ws (L.take (k + 1)) i))) := by
            have hp := cen_put HRc.out e0 e1 e2
            rw [HG.out] at hp
            exact hp
          have HA2 : Hid (Apart w1.heap.size (w1.heap.size + 1) w3 ((wc.setCell ⟨w1.heap.size, 10, none⟩ (.int .i64 (f 10 + 1))).setCell ⟨w1.heap.size, 11, none⟩ (.int .i64 (f 11 + Sz + 1)))) := cen_apart HAc.out
          generalize f 10 = fa at r0 p0 p0' HP HA2
          generalize f 11 = fb at r1 p1 p1' HP HA2
          clear e0 e1 e2 HRc HBD HT HG HAc
          go_wp2_with fail
          go_region
          go_wp2_with fail
          go_region
          go_wp2
          go_roundw
          case rel => exact ⟨k + 1, by omega, by go_num, HP.out, ⟨HA2.out.os, HA2.out.tape, HA2.out.output, HA2.out.size, HA2.out.block⟩⟩
          case measure => simp [intOf]; omega
    · have hge : (L.length : Int) ≤ (k : Int) := by omega
      obtain rfl : k = L.length := by omega
      rw [List.take_length] at hR
      have HR : Hid (wr.rowIs w1.heap.size 3 12 (fun j => .int .i64 (cen ws L j))) := hR
      clear hR
      go_wp2
      go_ret
      exact ⟨_, rfl, ⟨_, _, rfl, .inr ⟨w1.heap.size, 12, _, rfl, by omega, HR.out.lt, Nat.le_refl _, HR.out, fun _ _ => rfl⟩⟩, BW.out⟩
set_option maxHeartbeats 2000000 in
theorem specCensus_no (aw : Option Addr) (cw : Nat) (ws : List Int) (semi toh top : Int) (cyc : Bool) (scan old copied serial : Int) (ar : Option Addr) (cr : Nat) (rs : List (Int × Int)) (y : Nat → Int) (Tr : Nat) (w : World) (hs : Sl w (.slice aw ws.length cw) ws) (hn : ws.length ≤ 1048576) (hw : Words64 ws) (hrt : SlF Tr w (.slice ar rs.length cr) rs.length (2 * rs.length) (fun i => .int .i64 (y i))) (hn2 : rs.length ≤ 1048576) (hok : ¬ ArOk ws semi toh top cyc scan old copied serial y rs.length) :
    Calls Tryz.prog 30 #[.agg #[.slice aw ws.length cw, .int .i64 semi, .int .i64 toh, .int .i64 top, .bool cyc, .int .i64 scan, .int .i64 old, .int .i64 copied, .int .i64 serial, .slice ar rs.length cr]] w fun e w' => ∃ v, e = .returned v ∧ OwnF w.heap.size w'.heap.size 3 w' v 0 0 (fun i => .int .i64 ((([] : List Nat).getD i 0 : Nat) : Int)) ∧ Below w.heap.size w w' := by
  have HS : Hid (Sl w (.slice aw ws.length cw) ws) := hs
  have HR : Hid (SlF w.heap.size w (.slice ar rs.length cr) rs.length (2 * rs.length) (fun i => .int .i64 (y i))) := hrt.here
  have HQ : Hid (¬ ArOk ws semi toh top cyc scan old copied serial y rs.length) := hok
  clear hs hrt hok
  go_enter Tryz.func30, Tryz.ntmps30
  go_wp2_with fail
  refine (specArenaOk_at _ _ _ _ _ _ _ _ _ _ _ _ _ _ y w.heap.size _ (HS.out.below (below_first (Below.refl _ _))) hn hw (HR.out.below (below_first (Below.refl _ _)) (Nat.le_refl _)) hn2).mono ?_
  rintro e w1 ⟨q, rfl, hq, b1⟩
  obtain rfl : q = false := by
    cases q with
    | false => rfl
    | true => exact absurd (hq.1 rfl) HQ.out
  have B1 := below_first b1
  clear hq b1
  go_wp2
  go_ret
  exact ⟨_, rfl, ⟨_, _, rfl, .inl rfl⟩, B1⟩
end Go.Proofs.YtmckcnmlhgpnhaaGreat
