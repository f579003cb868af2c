/- The program's Kin. -/
import Derived.Test.YtmckcnmlhgpnhaaGreatKCoJ
import Derived.Test.YtmckcnmlhgpnhaaGreatKCoK
import Derived.Test.YtmckcnmlhgpnhaaGreatKPutR
import Derived.Test.YtmckcnmlhgpnhaaGreatKLookS
import Derived.Test.YtmckcnmlhgpnhaaGreatKAllA
namespace Go.Proofs.YtmckcnmlhgpnhaaGreat
set_option maxRecDepth 20000
open Go.RowKit Go.Maps
set_option linter.unusedSimpArgs false
set_option linter.unusedVariables false

theorem isl_one (b off l ck r : Nat) (h : r < l) (hl : l ≤ ck) (W : World) : (Instr.sliceAt 28 (.slice (some ⟨b, off, none⟩) l ck) (some (.int .i64 (r : Int))) (some (.int .i64 ((r : Int) + 1))) none).run Tryz.prog W = .ok (.slice (some ⟨b, off + r * 2, none⟩) 1 (ck - r)) W := by
  have hz := Tryz.sizeOf48
  have he : Tryz.prog.elem 28 = 48 := by kernel_rfl
  rw [run_sliceAt_slice W 28 _ _ _ _ (by kernel_rfl), run_slice_lh W 28 _ _ _ (by rw [he]; exact Tryz.underlying28) .i64 .i64 _ _ (by omega) (by omega) (by omega), he, hz]
  have g1 : ¬ ck = r := by omega
  have g2 : ((r : Int) + 1).toNat = r + 1 := by omega
  simp [Result.andThen, sliced, g1, g2, Addr.add]
set_option maxHeartbeats 8000000 in
theorem implKin_yes (aw : Option Addr) (cw : Nat) (ws : List Int) (semi toh top : Int) (cyc : Bool) (scan old copied serial : Int) (ar : Option Addr) (cr : Nat) (rs : List (Int × Int)) (y : Nat → Int) (Tr : Nat) (w : World) (r : Nat) (hr : r < rs.length) (hs : Sl w (.slice aw ws.length cw) ws) (hcw : ws.length ≤ cw) (hcr : rs.length ≤ cr) (hn : ws.length ≤ 1048576) (hw : Words64 ws) (hrt : SlF Tr w (.slice ar rs.length cr) rs.length (2 * rs.length) (fun i => .int .i64 (y i))) (hn2 : rs.length ≤ 1048576) (hok : ArOk ws semi toh top cyc scan old copied serial y rs.length) (mk : Nat → Int) (R : List (Nat × Int × Int)) (hK : Known mk ws cyc scan) (hB : BfsS ws 0 (reachN ws (rootF fun i => y (2 * r + i)) (-1) (fun j => (j : Int)) 1 []) R) (hC : Come mk (plS (reachN ws (rootF fun i => y (2 * r + i)) (-1) (fun j => (j : Int)) 1 []))) (hCR : Come mk (plS R)) :
    Calls Tryz.prog 36 #[.agg #[.slice aw ws.length cw, .int .i64 semi, .int .i64 toh, .int .i64 top, .bool cyc, .int .i64 scan, .int .i64 old, .int .i64 copied, .int .i64 serial, .slice ar rs.length cr], .int .i64 (r : Int)] w fun e w' => ∃ v, e = .returned v ∧ OwnF w.heap.size w'.heap.size 3 w' v (kinN ws (plS R)).length (kinN ws (plS R)).length (fun i => .int .i64 ((kinN ws (plS R)).getD i 0)) ∧ Below w.heap.size w w' := by
  obtain ⟨i0, hi, hz0, hz1', hz2⟩ := info_parts info3
  obtain ⟨s0, s1, hl, t0, t1, hrl, h1, h2, hold⟩ := num_facts hok.1
  obtain ⟨b, off, rfl, hb, hc⟩ := sl_open hs (by omega)
  obtain ⟨br, offr, cap', hv, _, lbr, hcr'⟩ := hrt.here.parts (k := 0) (by omega)
  simp only [Value.slice.injEq] at hv
  obtain ⟨rfl, _, rfl⟩ := hv
  have HS : Hid (Sl w (.slice (some ⟨b, off, none⟩) ws.length cw) ws) := hs
  have HR : Hid (SlF w.heap.size w (.slice (some ⟨br, offr, none⟩) rs.length cr) rs.length (2 * rs.length) (fun i => .int .i64 (y i))) := hrt.here
  have HQ : Hid (ArOk ws semi toh top cyc scan old copied serial y rs.length) := hok
  have hRl : R.length ≤ ws.length := by rw [← plS_len]; exact come_length hK hCR
  have hRl' : (R.length : Int) ≤ 1048576 := by omega
  have HPL : Hid (∀ k, k < R.length → (plS R).getD k 0 < ws.length) := fun k hk => known_lt hK (hCR.2 _ (by simp [plS_len, hk]))
  have HRE : Hid (∀ W, Below w.heap.size w W → Calls Tryz.prog 50 #[.agg #[.slice (some ⟨b, off, none⟩) ws.length cw, .int .i64 semi, .int .i64 toh, .int .i64 top, .bool cyc, .int .i64 scan, .int .i64 old, .int .i64 copied, .int .i64 serial, .slice (some ⟨br, offr, none⟩) rs.length cr], .slice (some ⟨br, offr + r * 2, none⟩) 1 (cr - r)] W fun e w' => ∃ v, e = .returned v ∧ OwnF W.heap.size w'.heap.size 3 w' v R.length R.length (fun i => .int .i64 (((plS R).getD i 0 : Nat) : Int)) ∧ Below W.heap.size W w') := fun W hW => by
    refine reached_at b off cw ws semi toh top cyc scan old copied serial (some ⟨br, offr, none⟩) cr rs (some ⟨br, offr + r * 2, none⟩) (cr - r) 1 (fun i => y (2 * r + i)) mk R W (by have := hW.size; omega) (fun i hi => by rw [hW.cell (p := ⟨b, off + i, none⟩) hb]; exact hc i hi) hn hw ?_ (by omega) (fun k hk hrr => ?_) hK hB hC hCR
    · refine ⟨_, _, rfl, .inr ⟨br, offr + r * 2, rfl, by have := hW.size; omega, by have := hW.size; omega, fun i hi => ?_⟩⟩
      rw [hW.cell (p := ⟨br, offr + r * 2 + i, none⟩) lbr, Nat.add_assoc, Nat.mul_comm r 2]
      exact hcr' (2 * r + i) (by omega)
    · obtain rfl : k = 0 := by omega
      obtain ⟨p, h1, _, _, h4, h5, _⟩ := ar_root hw hok hr hrr
      exact ⟨p, p, h1, by omega, h5, by omega⟩
  have HRB : Hid (hasR (r : Int) rs.length = true) := by show _ = _; unfold hasR; simp; omega
  have hsl := isl_one br offr rs.length cr r hr hcr
  have hr' : (r : Int) < (rs.length : Int) := by omega
  have hrl' : (rs.length : Int) ≤ 24 := by omega
  have fz := field_serial
  clear hs hrt hok hK hB hC hCR hc hcr' h1 h2 hold
  go_enter Tryz.func36, Tryz.ntmps36
  go_wp2_with fail
  refine (implArenaOk_at _ _ _ _ _ _ _ _ _ _ _ _ _ _ y w.heap.size _ (HS.out.below (below_first (Below.refl _ _))) hcw hn hw (HR.out.below (below_first (Below.refl _ _)) (Nat.le_refl _)) hn2).mono ?_
  rintro e w1 ⟨q, rfl, hq, b1⟩
  obtain rfl := hq.2 HQ.out
  have B1 := below_first b1
  have k1 := one_cells b1 (by simp)
  have z1 := size_first b1
  clear b1 hq
  go_wp2_with fail
  refine (hasRoot_any _ _ _ _ _ _ _ _ _ _ _ _ _ _ (r : Int) _ hn2).mono ?_
  rw [HRB.out]
  rintro e w2 ⟨rfl, b2⟩
  have B2 : Hid (Below w.heap.size w w2) := below_next B1 b2
  have k2 := has_below k1 b2 z1
  have z2 : w.heap.size < w2.heap.size := Nat.lt_of_lt_of_le z1 b2.size
  have KP : ∀ V, Below w2.heap.size w2 V → (Below w2.heap.size w2 V ∧ (∀ i, V.cell? ⟨w.heap.size, i, none⟩ = (#[.slice (some ⟨b, off, none⟩) ws.length cw, .int .i64 semi, .int .i64 toh, .int .i64 top, .bool cyc, .int .i64 scan, .int .i64 old, .int .i64 copied, .int .i64 serial, .slice (some ⟨br, offr, none⟩) rs.length cr] : Array Value)[i]?)) := fun V hV => ⟨hV, has_below k2 hV z2⟩
  have bd' := (Below.refl w2.heap.size w2).drew
  clear b2 B1 HRB HQ HR
  go_wp2_with fail
  clear k1 k2
  refine wp_region_held_drew (S := fun V => Below w2.heap.size w2 V ∧ (∀ i, V.cell? ⟨w.heap.size, i, none⟩ = (#[.slice (some ⟨b, off, none⟩) ws.length cw, .int .i64 semi, .int .i64 toh, .int .i64 top, .bool cyc, .int .i64 scan, .int .i64 old, .int .i64 copied, .int .i64 serial, .slice (some ⟨br, offr, none⟩) rs.length cr] : Array Value)[i]?)) (by kernel_rfl) (KP _ bd') (fun hHeld => ?_)
  refine tkK 0 18 (.agg #[.slice (some ⟨b, off, none⟩) ws.length cw, .int .i64 semi, .int .i64 toh, .int .i64 top, .bool cyc, .int .i64 scan, .int .i64 old, .int .i64 copied, .int .i64 serial, .slice (some ⟨br, offr, none⟩) rs.length cr]) hHeld rfl ?_ (by intro V hSw; have q0 := hSw.2 0; have q1 := hSw.2 1; have q2 := hSw.2 2; have q3 := hSw.2 3; have q4 := hSw.2 4; have q5 := hSw.2 5; have q6 := hSw.2 6; have q7 := hSw.2 7; have q8 := hSw.2 8; have q9 := hSw.2 9; simp at q0 q1 q2 q3 q4 q5 q6 q7 q8 q9; go_simp)
  try simp only [Act.put, List.setIfInBounds_toArray, List.set_cons_zero, List.set_cons_succ]
  refine tkK 1 19 (.pointer (some ⟨w.heap.size, 9, none⟩)) hHeld rfl ?_
  try simp only [Act.put, List.setIfInBounds_toArray, List.set_cons_zero, List.set_cons_succ]
  refine tkK 2 20 (.slice (some ⟨br, offr, none⟩) rs.length cr) hHeld rfl ?_ (by intro V hSw; have q9 := hSw.2 9; simp at q9; go_simp)
  try simp only [Act.put, List.setIfInBounds_toArray, List.set_cons_zero, List.set_cons_succ]
  refine tkK 3 21 (.int .i64 (r : Int)) hHeld rfl ?_
  try simp only [Act.put, List.setIfInBounds_toArray, List.set_cons_zero, List.set_cons_succ]
  refine tkK 4 22 (.int .i64 (r : Int)) hHeld rfl ?_
  try simp only [Act.put, List.setIfInBounds_toArray, List.set_cons_zero, List.set_cons_succ]
  refine tkK 5 23 (.int .i64 ((r : Int) + 1)) hHeld rfl ?_ (by intro V hSw; (try dsimp only at hSw); go_simp; rw [IntKind.wrap_i64]; omega)
  try simp only [Act.put, List.setIfInBounds_toArray, List.set_cons_zero, List.set_cons_succ]
  refine tkK 6 24 (.slice (some ⟨br, offr + r * 2, none⟩) 1 (cr - r)) hHeld rfl ?_ (by intro V hSw; have h := hsl V; go_simp)
  try simp only [Act.put, List.setIfInBounds_toArray, List.set_cons_zero, List.set_cons_succ]
  refine tkK 9 27 (.int .i64 0) hHeld rfl ?_
  try simp only [Act.put, List.setIfInBounds_toArray, List.set_cons_zero, List.set_cons_succ]
  refine wpAnyH_ready (rs := [7]) (by kernel_rfl) (by simp) ?_
  refine AllReadyH.cons (o := { dst := some 25, op := _, type := _, pos := _, after := _, guard := _ }) rfl (fun KK hKK => ?_) AllReadyH.nil
  go_simp
  go_at_call 50
  refine (HRE.out _ (below_next B2.out hHeld.1)).mono ?_
  rintro e w4 ⟨v4, rfl, o4, bb⟩
  obtain ⟨a4, c4, rfl⟩ := o4.sl.head
  have hBl := below_next (w := w2) hHeld.1 bb
  have O4 : Hid (∃ B, OwnF B w4.heap.size 3 w4 (.slice a4 R.length c4) R.length R.length (fun i => .int .i64 (((plS R).getD i 0 : Nat) : Int))) := ⟨_, o4⟩
  have B4 : Hid (Below w.heap.size w w4) := below_next B2.out hBl
  have k4 : Hid (∀ i, w4.cell? ⟨w.heap.size, i, none⟩ = (#[.slice (some ⟨b, off, none⟩) ws.length cw, .int .i64 semi, .int .i64 toh, .int .i64 top, .bool cyc, .int .i64 scan, .int .i64 old, .int .i64 copied, .int .i64 serial, .slice (some ⟨br, offr, none⟩) rs.length cr] : Array Value)[i]?) := (KP _ hBl).2
  have z4 : w.heap.size < w4.heap.size := by have := hBl.size; omega
  have H4 := KP _ hBl
  clear bb o4 hBl hHeld
  refine hKK.out _ _ H4 (fun hHeld => ?_)
  clear hKK KK H4
  try simp only [Act.put, List.setIfInBounds_toArray, List.set_cons_zero, List.set_cons_succ]
  refine tkK 8 26 (.int .i64 (R.length : Int)) hHeld rfl ?_
  try simp only [Act.put, List.setIfInBounds_toArray, List.set_cons_zero, List.set_cons_succ]
  refine wpAnyH_done (by kernel_rfl) ?_ _
  clear hHeld KP bd' B2 hsl HRE
  go_wp2_with fail
  go_loopw [5, 7, 8, 27] (fun u5 _ _ u27 wr => ∃ (k : Nat) (u : Value), k ≤ R.length ∧ u = u5 ∧ u27 = .int .i64 k ∧ IR w4.heap.size wr u (serN ws ((plS R).take k)) ∧ Below w4.heap.size w4 wr) (fun _ _ _ u27 _ => R.length - (intOf u27).toNat)
  case atStart => exact ⟨0, _, Nat.zero_le _, rfl, rfl, IR.nil _ _, Below.refl _ _⟩
  case round =>
    obtain ⟨k, u, hk, rfl, rfl, hU, hF⟩ := hrel
    by_cases hlt : k < R.length
    · have hlt' : (k : Int) < (R.length : Int) := by omega
      obtain ⟨BB, O5⟩ := O4.out
      obtain ⟨g, og, cap, hv, _, lg, hgc⟩ := O5.sl.parts (k := k) hlt
      simp only [Value.slice.injEq] at hv
      obtain ⟨rfl, _, rfl⟩ := hv
      obtain ⟨p, hp⟩ : ∃ p, p = (plS R).getD k 0 := ⟨_, rfl⟩
      have hpl : p < ws.length := by rw [hp]; exact HPL.out k hlt
      have x0 : wr.cell? ⟨g, og + k, none⟩ = some (.int .i64 (p : Int)) := by rw [hF.cell (p := ⟨g, og + k, none⟩) lg, hp]; exact hgc k hlt
      have kr := has_below k4.out hF z4
      have BW : Hid (Below w.heap.size w wr) := B4.out.trans (hF.mono (by omega))
      have HT : Hid (serN ws ((plS R).take (k + 1)) = if rdN (wordAt ws p) = 0 then serN ws ((plS R).take k) else serN ws ((plS R).take k) ++ [rdN (wordAt ws p)]) := by show _ = _; rw [serN_take ws (plS R) (by rw [plS_len]; exact hlt), hp]
      have hsl2 : (serN ws ((plS R).take k)).length ≤ 1048576 := by have h1 := serN_len ws ((plS R).take k); have h2 := List.length_take_le k (plS R); omega
      obtain ⟨xs, hxs⟩ : ∃ xs, xs = serN ws ((plS R).take k) := ⟨_, rfl⟩
      rw [← hxs] at hU HT hsl2
      obtain ⟨s, hsq⟩ : ∃ s, s = rdN (wordAt ws p) := ⟨_, rfl⟩
      have HHD : Hid (∀ W, Below wr.heap.size wr W → Calls Tryz.prog 81 #[.agg #[.slice (some ⟨b, off, none⟩) ws.length cw, .int .i64 semi, .int .i64 toh, .int .i64 top, .bool cyc, .int .i64 scan, .int .i64 old, .int .i64 copied, .int .i64 serial, .slice (some ⟨br, offr, none⟩) rs.length cr], .int .i64 (p : Int)] W fun e w' => e = .returned (.agg #[.int .i64 (rdK (wordAt ws p)), .int .i64 (rdS (wordAt ws p)), .int .i64 s]) ∧ Below W.heap.size W w') := fun W hW => by rw [hsq]; exact headAt_at _ cw ws semi toh top cyc scan old copied serial _ cr rs (p : Int) p W rfl (HS.out.below (below_next BW.out hW)) hn hw hpl
      rw [← hsq] at HT
      have HU : Hid (IR w4.heap.size wr u xs) := hU
      have HF : Hid (Below w4.heap.size w4 wr) := hF
      clear hp hgc hU hF hxs hsq O5 BW
      by_cases hs0 : s = 0
      · subst hs0
        rw [if_pos rfl] at HT
        go_wp2_with (go_at_call 81; refine (HHD.out _ (Below.refl _ _)).mono ?_; rintro e w5 ⟨rfl, b5⟩)
        go_roundw
        case rel => exact ⟨k + 1, _, by omega, rfl, by go_num, by rw [HT.out]; exact HU.out.below b5, HF.out.trans (b5.mono HF.out.size)⟩
        case measure => simp [intOf]; omega
      · rw [if_neg hs0] at HT
        have hs1 : (s != 0) = true := by simpa using hs0
        clear hs0
        go_upto_region 9 with (go_at_call 81; refine (HHD.out _ (Below.refl _ _)).mono ?_; rintro e w5 ⟨rfl, b5⟩)
        have HU5 : Hid (IR w4.heap.size w5 u xs) := HU.out.below b5
        have HF5 : Hid (Below w4.heap.size w4 w5) := HF.out.trans (b5.mono HF.out.size)
        have z5 : w4.heap.size ≤ w5.heap.size := HF5.out.size
        have a1 : (w5.alloc (.cells #[.int .i64 s] 3)).ownsRow w4.heap.size 3 1 u xs.length (icl xs) := IR.alloc HU5.out _
        clear b5 HU HF x0 kr HHD
        go_wp2_with (at_builtin; refine wpList_append_own _ rfl _ _ 64 rfl w4.heap.size 3 i0 (.int .i64 0) 1 8 Tryz.underlying64 hi hz0 hz1' hz2 rfl (by decide) u xs.length (icl xs) rfl a1 ⟨w5.heap.size, 0, none⟩ 1 1 [.int .i64 s] rfl rfl (cell_one_new _ _ _) (ints_oneCell .i64 [s]) (by unfold maxLen; omega) (by omega) (by simp; omega) ?_)
        intro v3 w3 hown hgrow hnil
        have I3 : Hid (IR w4.heap.size w3 v3 (serN ws ((plS R).take (k + 1)))) := by
          show IR _ _ _ _
          rw [HT.out]
          unfold IR
          rw [icl_snoc, List.length_append]
          exact hown
        have B3 : Hid (Below w4.heap.size w4 w3) := (HF5.out.alloc z5 _).grown hgrow (by simp; omega) (fun g hg => (World.ownsRow.lt HU5.out g hg).1)
        clear hown hgrow hnil a1 HU5 HF5
        go_wp2
        go_roundw
        case rel => exact ⟨k + 1, _, by omega, rfl, by go_num, I3.out, B3.out⟩
        case measure => simp [intOf]; omega
    · have hge : (R.length : Int) ≤ (k : Int) := by omega
      have hkk : (plS R).take k = plS R := List.take_of_length_le (by rw [plS_len]; omega)
      rw [hkk] at hU
      have HKS : Hid ((serN ws (plS R)).mergeSort (fun x y => decide (x ≤ y)) = kinN ws (plS R)) := kin_sorted ws (plS R)
      have hsn : (serN ws (plS R)).length ≤ 1048576 := by have h1 := serN_len ws (plS R); rw [plS_len] at h1; omega
      have BW : Hid (Below w.heap.size w wr) := B4.out.trans (hF.mono (by omega))
      have HF : Hid (Below w4.heap.size w4 wr) := hF
      have HKL : Hid ((kinN ws (plS R)).length = (serN ws (plS R)).length) := by show _ = _; rw [← HKS.out, List.length_mergeSort]
      obtain ⟨xs, hxs⟩ : ∃ xs, xs = serN ws (plS R) := ⟨_, rfl⟩
      rw [← hxs] at hU HKS hsn HKL
      clear hxs hkk hF k4 HPL O4
      rcases hU with ⟨e1, ⟨rfl, h0⟩ | ⟨g, cap, cur, rfl, hg⟩⟩
      · obtain rfl : xs = [] := List.eq_nil_of_length_eq_zero h0
        have HK0 : Hid (kinN ws (plS R) = []) := List.eq_nil_of_length_eq_zero (by rw [HKL.out]; rfl)
        clear e1 h0
        go_wp2_with (go_at_call 85; refine (Tryz.slices_Sort_int_none none 0 _).mono ?_; rintro e w6 ⟨rfl, rfl⟩)
        go_ret
        exact ⟨_, rfl, by rw [HK0.out]; exact ⟨none, 0, rfl, .inl rfl⟩, BW.out⟩
      · have hI : IR w4.heap.size wr (.slice (some ⟨g, 0, none⟩) xs.length cap) xs := ⟨e1, .inr ⟨g, cap, cur, rfl, hg⟩⟩
        obtain ⟨hH, lg, hBg⟩ := ir_holds hI
        have HI : Hid (IR w4.heap.size wr (.slice (some ⟨g, 0, none⟩) xs.length cap) xs) := hI
        clear e1 hg hI
        go_wp2_with fail
        refine (Tryz.slices_Sort_int g 0 cap xs _ hH lg (by omega)).mono ?_
        rintro e w6 ⟨rfl, n6, os6, hw6⟩
        obtain ⟨i6, b6⟩ := ir_put (n := n6) (os := os6) HI.out (ys := xs.mergeSort (fun x y => decide (x ≤ y))) (List.length_mergeSort ..)
        rw [← hw6] at i6 b6
        rw [HKS.out] at i6
        have I6 : Hid (OwnF w.heap.size w6.heap.size 3 w6 (.slice (some ⟨g, 0, none⟩) xs.length cap) (kinN ws (plS R)).length (kinN ws (plS R)).length (fun i => .int .i64 ((kinN ws (plS R)).getD i 0))) := by
          have := ir_own (i6.mono (C := w.heap.size) (by omega))
          rw [HKL.out] at this ⊢
          exact this
        have B6 : Hid (Below w.heap.size w w6) := BW.out.trans (b6.mono (by omega))
        clear i6 b6 hw6 hH HI
        go_wp2
        go_ret
        exact ⟨_, rfl, I6.out, B6.out⟩
set_option maxHeartbeats 2000000 in
theorem implKin_no (aw : Option Addr) (cw : Nat) (ws : List Int) (semi toh top : Int) (cyc : Bool) (scan old copied serial : Int) (ar : Option Addr) (cr : Nat) (rs : List (Int × Int)) (x0 : Int) (y : Nat → Int) (Tr : Nat) (w : World) (hs : Sl w (.slice aw ws.length cw) ws) (hcw : ws.length ≤ cw) (hn : ws.length ≤ 1048576) (hw : Words64 ws) (hrt : SlF Tr w (.slice ar rs.length cr) rs.length (2 * rs.length) (fun i => .int .i64 (y i))) (hn2 : rs.length ≤ 1048576) (hno : ¬ ArOk ws semi toh top cyc scan old copied serial y rs.length ∨ hasR x0 rs.length = false) :
    Calls Tryz.prog 36 #[.agg #[.slice aw ws.length cw, .int .i64 semi, .int .i64 toh, .int .i64 top, .bool cyc, .int .i64 scan, .int .i64 old, .int .i64 copied, .int .i64 serial, .slice ar rs.length cr], .int .i64 x0] w fun e w' => ∃ v, e = .returned v ∧ OwnF w.heap.size w'.heap.size 3 w' v 0 0 (fun i => .int .i64 (([] : List Int).getD i 0)) ∧ Below w.heap.size w w' := by
  have HS : Hid (Sl w (.slice aw ws.length cw) ws) := hs
  have HR : Hid (SlF w.heap.size w (.slice ar rs.length cr) rs.length (2 * rs.length) (fun i => .int .i64 (y i))) := hrt.here
  have HNO : Hid (¬ ArOk ws semi toh top cyc scan old copied serial y rs.length ∨ hasR x0 rs.length = false) := hno
  clear hs hrt hno
  go_enter Tryz.func36, Tryz.ntmps36
  go_wp2_with fail
  refine (implArenaOk_at _ _ _ _ _ _ _ _ _ _ _ _ _ _ y w.heap.size _ (HS.out.below (below_first (Below.refl _ _))) hcw hn hw (HR.out.below (below_first (Below.refl _ _)) (Nat.le_refl _)) hn2).mono ?_
  rintro e w1 ⟨q, rfl, hq, b1⟩
  have B1 := below_first b1
  have k1 := one_cells b1 (by simp)
  have z1 := size_first b1
  clear b1
  cases q with
  | false =>
    clear hq
    go_wp2
    go_ret
    exact ⟨_, rfl, ⟨_, _, rfl, .inl rfl⟩, B1⟩
  | true =>
    have HRB : Hid (hasR x0 rs.length = false) := by
      rcases HNO.out with h | h
      · exact absurd (hq.1 rfl) h
      · exact h
    clear hq
    go_wp2_with fail
    refine (hasRoot_any _ _ _ _ _ _ _ _ _ _ _ _ _ _ x0 _ hn2).mono ?_
    rw [HRB.out]
    rintro e w2 ⟨rfl, b2⟩
    have B2 := below_next B1 b2
    clear b2
    go_wp2
    go_ret
    exact ⟨_, rfl, ⟨_, _, rfl, .inl rfl⟩, B2⟩
end Go.Proofs.YtmckcnmlhgpnhaaGreat
