/- The model's Way. -/
import Derived.Test.YtmckcnmlhgpnhaaGreatKCoK
namespace Go.Proofs.YtmckcnmlhgpnhaaGreat
set_option maxRecDepth 20000
open Go.RowKit Go.Maps
set_option linter.unusedSimpArgs false
set_option linter.unusedVariables false

set_option maxHeartbeats 4000000 in
theorem specWay_no (aw : Option Addr) (cw : Nat) (ws : List Int) (semi toh top : Int) (cyc : Bool) (scan old copied serial : Int) (ar : Option Addr) (cr : Nat) (rs : List (Int × Int)) (x0 : Int) (y : Nat → Int) (Tr : Nat) (w : World) (hs : Sl w (.slice aw ws.length cw) ws) (hn : ws.length ≤ 1048576) (hw : Words64 ws) (hrt : SlF Tr w (.slice ar rs.length cr) rs.length (2 * rs.length) (fun i => .int .i64 (y i))) (hn2 : rs.length ≤ 1048576) (hno : ¬ ArOk ws semi toh top cyc scan old copied serial y rs.length ∨ x0 < 1) :
    Calls Tryz.prog 37 #[.agg #[.slice aw ws.length cw, .int .i64 semi, .int .i64 toh, .int .i64 top, .bool cyc, .int .i64 scan, .int .i64 old, .int .i64 copied, .int .i64 serial, .slice ar rs.length cr], .int .i64 x0] w fun e w' => ∃ v, e = .returned (.tuple #[v, .bool false]) ∧ OwnF w.heap.size w'.heap.size 3 w' v 0 0 (fun i => .int .i64 (([] : List Int).getD i 0)) ∧ Below w.heap.size w w' := by
  have HS : Hid (Sl w (.slice aw ws.length cw) ws) := hs
  have HR : Hid (SlF w.heap.size w (.slice ar rs.length cr) rs.length (2 * rs.length) (fun i => .int .i64 (y i))) := hrt.here
  have HQ : Hid (¬ ArOk ws semi toh top cyc scan old copied serial y rs.length ∨ x0 < 1) := hno
  clear hs hrt hno
  go_enter Tryz.func37, Tryz.ntmps37
  go_wp2_with fail
  refine (specArenaOk_at _ _ _ _ _ _ _ _ _ _ _ _ _ _ y w.heap.size _ (HS.out.below (below_first (Below.refl _ _))) hn hw (HR.out.below (below_first (Below.refl _ _)) (Nat.le_refl _)) hn2).mono ?_
  rintro e w1 ⟨q, rfl, hq, b1⟩
  have B1 := below_first b1
  have HQ1 : Hid (q = true ↔ ArOk ws semi toh top cyc scan old copied serial y rs.length) := hq
  clear hq b1
  cases q with
  | false =>
    go_wp2
    go_ret2
    exact ⟨_, rfl, ⟨_, _, rfl, .inl rfl⟩, B1⟩
  | true =>
  have h1 : x0 < 1 := HQ.out.resolve_left (fun h => h (HQ1.out.1 rfl))
  go_wp2
  go_ret2
  exact ⟨_, rfl, ⟨_, _, rfl, .inl rfl⟩, B1⟩
set_option maxHeartbeats 8000000 in
theorem specWay_yes (aw : Option Addr) (cw : Nat) (ws : List Int) (semi toh top : Int) (cyc : Bool) (scan old copied serial : Int) (ar : Option Addr) (cr : Nat) (rs : List (Int × Int)) (y : Nat → Int) (Tr : Nat) (w : World) (x0 : Int) (hx : 1 ≤ x0) (hs : Sl w (.slice aw ws.length cw) ws) (hn : ws.length ≤ 1048576) (hw : Words64 ws) (hrt : SlF Tr w (.slice ar rs.length cr) rs.length (2 * rs.length) (fun i => .int .i64 (y i))) (hn2 : rs.length ≤ 24) (hok : ArOk ws semi toh top cyc scan old copied serial y rs.length) (mk : Nat → Int) (R : List (Nat × Int × Int)) (hK : Known mk ws cyc scan) (hCR : Come mk (plS R)) (hWF : WfS R)
    (hreach : ∀ W avr cvr, Below w.heap.size w W → SlF W.heap.size W (.slice avr rs.length cvr) rs.length rs.length (fun i => .int .i64 ((i : Nat) : Int)) → Calls Tryz.prog 83 #[.agg #[.slice aw ws.length cw, .int .i64 semi, .int .i64 toh, .int .i64 top, .bool cyc, .int .i64 scan, .int .i64 old, .int .i64 copied, .int .i64 serial, .slice ar rs.length cr], .slice avr rs.length cvr] W fun e w' => ∃ v', e = .returned v' ∧ w'.ownsRow W.heap.size 117 3 v' R.length (c3 R) ∧ Below W.heap.size W w') :
    Calls Tryz.prog 37 #[.agg #[.slice aw ws.length cw, .int .i64 semi, .int .i64 toh, .int .i64 top, .bool cyc, .int .i64 scan, .int .i64 old, .int .i64 copied, .int .i64 serial, .slice ar rs.length cr], .int .i64 x0] w fun e w' => ∃ (v : Value) (q : Bool) (out : List Int), e = .returned (.tuple #[v, .bool q]) ∧ WayA ws R x0 q out ∧ OwnF w.heap.size w'.heap.size 3 w' v out.length out.length (fun i => .int .i64 (out.getD i 0)) ∧ Below w.heap.size w w' := by
  obtain ⟨i0, hi, hz0, hz1', hz2⟩ := info_parts info3
  have HS : Hid (Sl w (.slice aw ws.length cw) ws) := hs
  have HR : Hid (SlF w.heap.size w (.slice ar rs.length cr) rs.length (2 * rs.length) (fun i => .int .i64 (y i))) := hrt.here
  have HQ : Hid (ArOk ws semi toh top cyc scan old copied serial y rs.length) := hok
  have HRE : Hid (∀ W avr cvr, Below w.heap.size w W → SlF W.heap.size W (.slice avr rs.length cvr) rs.length rs.length (fun i => .int .i64 ((i : Nat) : Int)) → Calls Tryz.prog 83 #[.agg #[.slice aw ws.length cw, .int .i64 semi, .int .i64 toh, .int .i64 top, .bool cyc, .int .i64 scan, .int .i64 old, .int .i64 copied, .int .i64 serial, .slice ar rs.length cr], .slice avr rs.length cvr] W fun e w' => ∃ v', e = .returned v' ∧ w'.ownsRow W.heap.size 117 3 v' R.length (c3 R) ∧ Below W.heap.size W w') := hreach
  have hRl : R.length ≤ ws.length := by rw [← plS_len]; exact come_length hK hCR
  have hRl' : (R.length : Int) ≤ 1048576 := by omega
  have hn2' : (rs.length : Int) ≤ 24 := by omega
  have HPL : Hid (∀ k, k < R.length → (plS R).getD k 0 < ws.length) := fun k hk => known_lt hK (hCR.2 _ (by simp [plS_len, hk]))
  have HWF : Hid (WfS R) := hWF
  have fz := field_serial
  clear hs hrt hok hreach hK hCR hWF
  go_enter Tryz.func37, Tryz.ntmps37
  go_wp2_with fail
  refine (specArenaOk_at _ _ _ _ _ _ _ _ _ _ _ _ _ _ y w.heap.size _ (HS.out.below (below_first (Below.refl _ _))) hn hw (HR.out.below (below_first (Below.refl _ _)) (Nat.le_refl _)) (by omega)).mono ?_
  rintro e w1 ⟨q, rfl, hq, b1⟩
  obtain rfl := hq.2 HQ.out
  have B1 := below_first b1
  have k1 := one_cells b1 (by simp)
  have z1 := size_first b1
  clear b1 hq
  go_upto_region 4 with fail
  obtain ⟨w2, hw2⟩ : ∃ V, V = w1.alloc (.cells #[] 3) := ⟨_, rfl⟩
  rw [← hw2]
  have I2 : Hid (IR w1.heap.size w2 (.slice (some ⟨w1.heap.size, 0, none⟩) 0 0) []) := by rw [hw2]; show IR _ _ _ _; simpa [icl] using IR.new (w := w1) [] (Nat.le_refl w1.heap.size) (by simp)
  have b2 : Below w1.heap.size w1 w2 := by rw [hw2]; exact (Below.refl _ _).alloc (Nat.le_refl _) _
  have B2 : Hid (Below w.heap.size w w2) := below_next B1 b2
  have k2 : Hid (∀ i, w2.cell? ⟨w.heap.size, i, none⟩ = (#[.slice aw ws.length cw, .int .i64 semi, .int .i64 toh, .int .i64 top, .bool cyc, .int .i64 scan, .int .i64 old, .int .i64 copied, .int .i64 serial, .slice ar rs.length cr] : Array Value)[i]?) := has_below k1 b2 z1
  have z2 := b2.size
  clear hw2 b2 k1 B1 HQ HR
  go_wp2_with fail
  go_loopw [6, 7] (fun v i wr => ∃ (k : Nat) (u : Value), k ≤ rs.length ∧ u = v ∧ i = .int .i64 k ∧ IR w1.heap.size wr u ((List.range k).map fun (j : Nat) => (j : Int)) ∧ u ≠ .slice none 0 0 ∧ Below w1.heap.size w2 wr) (fun _ i _ => rs.length - (intOf i).toNat)
  case atStart => exact ⟨0, _, Nat.zero_le _, rfl, rfl, I2.out, by simp, Below.refl _ _⟩
  case round =>
    obtain ⟨k, u, hk, rfl, rfl, hU, hne, hF⟩ := hrel
    have kr := has_below k2.out hF z1
    by_cases hlt : k < rs.length
    · have hlt' : (k : Int) < (rs.length : Int) := by omega
      have HU : Hid (IR w1.heap.size wr u ((List.range k).map fun (j : Nat) => (j : Int))) := hU
      have HF : Hid (Below w1.heap.size w2 wr) := hF
      have zr : w1.heap.size ≤ wr.heap.size := by have := hF.size; omega
      have hl : ((List.range k).map fun (j : Nat) => (j : Int)).length = k := by simp
      have a1 : (wr.alloc (.cells #[.int .i64 (k : Int)] 3)).ownsRow w1.heap.size 3 1 u k (icl ((List.range k).map fun (j : Nat) => (j : Int))) := by have := IR.alloc hU (.cells #[.int .i64 (k : Int)] 3); unfold IR at this; rw [hl] at this; exact this
      clear hU hF
      go_wp2_with (at_builtin; refine wpList_append_own _ rfl _ _ 64 rfl w1.heap.size 3 i0 (.int .i64 0) 1 8 Tryz.underlying64 hi hz0 hz1' hz2 rfl (by decide) u k (icl ((List.range k).map fun (j : Nat) => (j : Int))) rfl a1 ⟨wr.heap.size, 0, none⟩ 1 1 [.int .i64 (k : Int)] rfl rfl (cell_one_new _ _ _) (ints_oneCell .i64 [(k : Int)]) (by unfold maxLen; omega) (by omega) (by simp; omega) ?_)
      intro v3 w3 hown hgrow hnil
      have n3 : v3 ≠ .slice none 0 0 := by first | exact hnil | exact fun e => hne (hnil.1 e).1
      have I3 : Hid (IR w1.heap.size w3 v3 ((List.range (k + 1)).map fun (j : Nat) => (j : Int))) := by
        show IR _ _ _ _
        unfold IR
        rw [List.range_succ, List.map_append, icl_append, List.length_append, hl]
        exact hown
      have B3 : Hid (Below w1.heap.size w2 w3) := (HF.out.alloc zr _).grown hgrow (by simp; omega) (fun g hg => (World.ownsRow.lt HU.out g hg).1)
      have N3 : Hid (v3 ≠ .slice none 0 0) := n3
      clear hown hgrow hnil n3 a1 HU HF hne
      go_wp2
      go_roundw
      case rel => exact ⟨k + 1, _, by omega, rfl, by go_num, I3.out, N3.out, B3.out⟩
      case measure => simp [intOf]; omega
    · have hge : (rs.length : Int) ≤ (k : Int) := by omega
      obtain rfl : k = rs.length := by omega
      obtain ⟨av, cv, rfl⟩ : ∃ a c, u = .slice a rs.length c := by
        obtain ⟨a, c, h⟩ := IR.form hU
        exact ⟨a, c, by simpa using h⟩
      have s3 : SlF wr.heap.size wr (.slice av rs.length cv) rs.length rs.length (fun i => .int .i64 ((i : Nat) : Int)) := by
        have h := IR.sl hU
        simp only [List.length_map, List.length_range] at h
        exact h.congr fun i hi => by simp [hi]
      have BW : Below w.heap.size w wr := B2.out.trans (hF.mono (by omega))
      have zr : w.heap.size < wr.heap.size := by have := hF.size; omega
      have HS3 := s3
      clear hU hne hF I2 s3
      go_wp2_with fail
      refine (HRE.out _ _ _ BW HS3).mono ?_
      rintro e w4 ⟨v4, rfl, o4, b4⟩
      have B4 : Hid (Below w.heap.size w w4) := below_next BW b4
      have k4 : Hid (∀ i, w4.cell? ⟨w.heap.size, i, none⟩ = (#[.slice aw ws.length cw, .int .i64 semi, .int .i64 toh, .int .i64 top, .bool cyc, .int .i64 scan, .int .i64 old, .int .i64 copied, .int .i64 serial, .slice ar rs.length cr] : Array Value)[i]?) := has_below kr b4 zr
      have z4 : w.heap.size < w4.heap.size := Nat.lt_of_lt_of_le zr b4.size
      have O4 : Hid (w4.ownsRow wr.heap.size 117 3 v4 R.length (c3 R)) := o4
      obtain ⟨a4, c4, rfl⟩ := st_form o4
      clear o4 b4 HS3 kr BW HRE
      go_wp2_with fail
      go_loopw [9] (fun i wr => ∃ k : Nat, k ≤ R.length ∧ i = .int .i64 k ∧ Hid (∀ j, j < k → rdN (wordAt ws ((plS R).getD j 0)) ≠ x0) ∧ Below w4.heap.size w4 wr) (fun i _ => R.length - (intOf i).toNat)
      case atStart => exact ⟨0, Nat.zero_le _, rfl, fun j hj => by omega, Below.refl _ _⟩
      case round =>
        obtain ⟨k, hk, rfl, HNO, hF⟩ := hrel
        have BWr : Hid (Below w.heap.size w wr) := B4.out.trans (hF.mono (by omega))
        by_cases hlt : k < R.length
        · have hlt' : (k : Int) < (R.length : Int) := by omega
          obtain ⟨g, cap, hv, lg, hgc⟩ := st_item O4.out hlt
          simp only [Value.slice.injEq] at hv
          obtain ⟨rfl, _, rfl⟩ := hv
          obtain ⟨p, hp⟩ : ∃ p, p = (plS R).getD k 0 := ⟨_, rfl⟩
          have hpl : p < ws.length := by rw [hp]; exact HPL.out k hlt
          have x1 : wr.cell? ⟨g, k * 3, none⟩ = some (.int .i64 (p : Int)) := by rw [hF.cell (p := ⟨g, k * 3, none⟩) lg, hp]; exact (hgc k hlt).1
          have HGC : Hid (∀ j, j < R.length → w4.cell? ⟨g, j * 3 + 1, none⟩ = some (.int .i64 (R.getD j (0, 0, 0)).2.1) ∧ w4.cell? ⟨g, j * 3 + 2, none⟩ = some (.int .i64 (R.getD j (0, 0, 0)).2.2)) := fun j hj => (hgc j hj).2
          have kr := has_below k4.out hF z4
          have zr2 := hF.size
          have HLK : Hid (∀ W, Below wr.heap.size wr W → Calls Tryz.prog 43 #[.agg #[.slice aw ws.length cw, .int .i64 semi, .int .i64 toh, .int .i64 top, .bool cyc, .int .i64 scan, .int .i64 old, .int .i64 copied, .int .i64 serial, .slice ar rs.length cr], .int .i64 (p : Int)] W fun e w' => e = .returned (.agg #[.int .i64 (rdK (wordAt ws p)), .int .i64 (rdS (wordAt ws p)), .int .i64 (rdN (wordAt ws p))]) ∧ Below W.heap.size W w') := fun W hW => l2Look_any aw cw ws semi toh top cyc scan old copied serial ar cr rs p W (HS.out.below (below_next BWr.out hW)) hn hw hpl
          have KP : ∀ V, Below wr.heap.size wr V → (Below wr.heap.size wr V ∧ (∀ i, V.cell? ⟨w.heap.size, i, none⟩ = (#[.slice aw ws.length cw, .int .i64 semi, .int .i64 toh, .int .i64 top, .bool cyc, .int .i64 scan, .int .i64 old, .int .i64 copied, .int .i64 serial, .slice ar rs.length cr] : Array Value)[i]?) ∧ V.cell? ⟨g, k * 3, none⟩ = some (.int .i64 (p : Int))) := fun V hV => ⟨hV, has_below kr hV (by omega), by rw [hV.cell (p := ⟨g, k * 3, none⟩) (by show g < wr.heap.size; omega)]; exact x1⟩
          have bd' := (Below.refl wr.heap.size wr).drew
          have HF : Hid (Below w4.heap.size w4 wr) := hF
          obtain ⟨s, hsq⟩ : ∃ s, s = rdN (wordAt ws p) := ⟨_, rfl⟩
          have HSQ : Hid (s = rdN (wordAt ws ((plS R).getD k 0))) := by show _ = _; rw [hsq, hp]
          rw [← hsq] at HLK
          clear hF hgc hp hsq HPL
          go_wp2_with fail
          go_region_held3 (fun V => Below wr.heap.size wr V ∧ (∀ i, V.cell? ⟨w.heap.size, i, none⟩ = (#[.slice aw ws.length cw, .int .i64 semi, .int .i64 toh, .int .i64 top, .bool cyc, .int .i64 scan, .int .i64 old, .int .i64 copied, .int .i64 serial, .slice ar rs.length cr] : Array Value)[i]?) ∧ V.cell? ⟨g, k * 3, none⟩ = some (.int .i64 (p : Int))) (first | assumption | exact KP _ bd' | exact KP _ (by assumption)) (first | (go_at_call 43; refine (HLK.out _ (And.left (by assumption))).mono ?_; rintro e wc ⟨rfl, bb⟩; have hBl := below_next (w := wr) (And.left (by assumption)) bb; clear bb))
          rename_i hHl
          have HBc : Hid (Below w4.heap.size w4 wc) := HF.out.trans (hBl.mono (by omega))
          have BWc : Hid (Below w.heap.size w wc) := below_next BWr.out hBl
          have zc := HBc.out.size
          clear hHl KP bd' kr x1 HF BWr HLK hBl
          by_cases hse : s = x0
          · have HHIT : Hid (WayA ws R x0 true (wayS R k)) := .inl ⟨rfl, k, hlt, by rw [← HSQ.out, hse], HNO.out, rfl⟩
            have hse' : (s != x0) = false := by simp [hse]
            rw [hse']
            clear hse HSQ HNO
            go_upto_region 14 with fail
            obtain ⟨w5, hw5⟩ : ∃ V, V = wc.alloc (.cells #[] 3) := ⟨_, rfl⟩
            rw [← hw5]
            have I5 : Hid (IR w.heap.size w5 (.slice (some ⟨wc.heap.size, 0, none⟩) 0 0) []) := by rw [hw5]; show IR _ _ _ _; simpa [icl] using IR.new (B := w.heap.size) (w := wc) [] (by omega) (by simp)
            have B5 : Hid (Below w4.heap.size w4 w5) := by rw [hw5]; exact HBc.out.alloc zc _
            clear hw5 HBc BWc
            go_wp2_with fail
            go_loopw [10, 11] (fun v q wr => ∃ (u : Value) (kk : Int) (d : Nat) (acc : List Int), u = v ∧ q = .int .i64 kk ∧ -1 ≤ kk ∧ kk < d ∧ kk < R.length ∧ acc.length + (kk + 1) ≤ R.length ∧ Hid (wayW R d kk acc = wayS R k) ∧ IR w.heap.size wr u acc ∧ u ≠ .slice none 0 0 ∧ Below w4.heap.size w4 wr) (fun _ q _ => (intOf q + 1).toNat)
            case atStart => exact ⟨_, (k : Int), k + 1, [], rfl, rfl, by omega, by omega, by omega, by simp; omega, rfl, I5.out, by simp, B5.out⟩
            case round =>
              obtain ⟨u, kk, d, acc, rfl, rfl, h1, hd, hkR, hal, HWY, hU, hne, hF⟩ := hrel
              by_cases h0 : 0 ≤ kk
              · obtain ⟨kn, rfl⟩ : ∃ kn : Nat, kk = kn := ⟨kk.toNat, by omega⟩
                obtain ⟨d', rfl⟩ : ∃ e, d = e + 1 := ⟨d - 1, by omega⟩
                have hkn : kn < R.length := by omega
                have f1 : wr.cell? ⟨g, kn * 3 + 1, none⟩ = some (.int .i64 (R.getD kn (0, 0, 0)).2.1) := by rw [hF.cell (p := ⟨g, kn * 3 + 1, none⟩) lg]; exact (HGC.out kn hkn).1
                have f2 : wr.cell? ⟨g, kn * 3 + 2, none⟩ = some (.int .i64 (R.getD kn (0, 0, 0)).2.2) := by rw [hF.cell (p := ⟨g, kn * 3 + 2, none⟩) lg]; exact (HGC.out kn hkn).2
                have hwf := HWF.out kn hkn
                have hwy : wayW R d' (R.getD kn (0, 0, 0)).2.1 ((R.getD kn (0, 0, 0)).2.2 :: acc) = wayS R k := by
                  have := HWY.out
                  simp only [wayW, if_pos h0, Int.toNat_natCast] at this
                  exact this
                have HWY2 : Hid (wayW R d' (R.getD kn (0, 0, 0)).2.1 ((R.getD kn (0, 0, 0)).2.2 :: acc) = wayS R k) := hwy
                generalize (R.getD kn (0, 0, 0)).2.1 = fr at f1 hwf HWY2
                generalize (R.getD kn (0, 0, 0)).2.2 = sl at f2 HWY2
                obtain ⟨bo, co, rfl, hoc, lbo, hox⟩ := ir_parts hU hne
                have zw : w.heap.size ≤ wr.heap.size := by have := hF.size; omega
                have hr1 : -1 ≤ fr ∧ fr < kn := by omega
                have a1 : IR w.heap.size (wr.alloc (.cells #[.int .i64 sl] 3)) (.slice (some ⟨wr.heap.size, 0, none⟩) 1 1) [sl] := by simpa [icl] using IR.new [sl] zw (by simp)
                have hn1 : ∀ i u, (icl acc)[i]? = some u → (wr.alloc (.cells #[.int .i64 sl] 3)).cell? ((⟨bo, 0, none⟩ : Addr).add i) = some u := fun i u hu => by
                  obtain ⟨hi, rfl⟩ := icl_some hu
                  rw [Addr.add_lit, Nat.zero_add, cell_new_old lbo, hox i hi]
                have HF : Hid (Below w4.heap.size w4 wr) := hF
                have z4r := hF.size
                have f1g : g < wr.heap.size := by omega
                have hla : acc.length ≤ 1048576 := by omega
                clear hwy HWY hU hne hF hox hwf
                go_wp2_with (first | (at_builtin; refine wpList_append_own _ rfl _ _ 64 rfl w.heap.size 3 i0 (.int .i64 0) 1 8 Tryz.underlying64 hi hz0 hz1' hz2 rfl (by decide) (.slice (some ⟨wr.heap.size, 0, none⟩) 1 1) 1 (icl [sl]) rfl a1 ⟨bo, 0, none⟩ acc.length co (icl acc) rfl (by rw [icl_len, Nat.mul_one]) hn1 (ints_oneCell .i64 _) (by unfold maxLen; omega) (by omega) (by simp; omega) ?_))
                intro v6 w6 hown hgrow hnil
                have n6 : v6 ≠ .slice none 0 0 := by first | exact hnil | exact fun e => by have := (hnil.1 e).1; simp at this
                have I6 : Hid (IR w.heap.size w6 v6 (sl :: acc)) := by
                  show IR _ _ _ _
                  have h6 : IR w.heap.size w6 v6 ([sl] ++ acc) := by
                    unfold IR
                    rw [icl_append, List.length_append]
                    exact hown
                  exact h6
                have b6 : Below wr.heap.size wr w6 := Below.grown ((Below.refl wr.heap.size wr).alloc (Nat.le_refl _) _) hgrow (by simp) (fun g hg => by simp [Value.ownBlock] at hg; omega)
                have f3 : w6.cell? ⟨g, kn * 3 + 1, none⟩ = some (.int .i64 fr) := by rw [b6.cell (p := ⟨g, kn * 3 + 1, none⟩) f1g]; exact f1
                have B6 : Hid (Below w4.heap.size w4 w6) := HF.out.trans (b6.mono z4r)
                have N6 : Hid (v6 ≠ .slice none 0 0) := n6
                clear hown hgrow hnil n6 a1 hn1 b6 f1 f2 HF
                go_wp2
                go_roundw
                case rel => exact ⟨_, fr, d', sl :: acc, rfl, rfl, hr1.1, by omega, by omega, by simp only [List.length_cons]; omega, HWY2, I6.out, N6.out, B6.out⟩
                case measure => simp [intOf]; omega
              · have h0' : kk < 0 := by omega
                have hacc : acc = wayS R k := by have := HWY.out; rw [wayW_neg h0] at this; exact this
                have HOW : Hid (OwnF w.heap.size wr.heap.size 3 wr u (wayS R k).length (wayS R k).length (fun i => .int .i64 ((wayS R k).getD i 0))) := by rw [← hacc]; exact ir_own hU
                have BWe : Hid (Below w.heap.size w wr) := B4.out.trans (hF.mono (by omega))
                clear hacc hU hne hF HWY
                go_wp2
                refine bodyPost_ret (v := .tuple #[u, .bool true]) (by simp [results, Tryz.results37, go_sem]) rfl ?_
                first | exact ⟨_, true, _, rfl, HHIT.out, HOW.out, BWe.out⟩ | exact ⟨_, .inr ⟨rfl, _, HHIT.out, HOW.out, BWe.out⟩⟩
          · have HNO2 : Hid (∀ j, j < k + 1 → rdN (wordAt ws ((plS R).getD j 0)) ≠ x0) := fun j hj => by
              by_cases e : j < k
              · exact HNO.out j e
              · obtain rfl : j = k := by omega
                exact fun e2 => hse (HSQ.out.trans e2)
            have hse' : (s != x0) = true := by simp [hse]
            clear hse HSQ HNO HGC
            go_wp2
            go_roundw
            case rel => exact ⟨k + 1, by omega, by go_num, HNO2, HBc.out⟩
            case measure => simp [intOf]; omega
        · have hge2 : (R.length : Int) ≤ (k : Int) := by omega
          have HMISS : Hid (WayA ws R x0 false []) := .inr ⟨rfl, fun j hj => HNO.out j (by omega), rfl⟩
          clear hF HNO
          go_wp2
          go_ret2
          first | exact ⟨_, false, [], rfl, HMISS.out, ⟨_, _, rfl, .inl rfl⟩, BWr.out⟩ | exact ⟨_, .inl ⟨rfl, [], HMISS.out, ⟨_, _, rfl, .inl rfl⟩, BWr.out⟩⟩
end Go.Proofs.YtmckcnmlhgpnhaaGreat
