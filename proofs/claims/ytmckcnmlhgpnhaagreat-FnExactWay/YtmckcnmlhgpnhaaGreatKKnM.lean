/- The model's Kin. -/
import Derived.Test.YtmckcnmlhgpnhaaGreatKKwM
import Derived.Test.YtmckcnmlhgpnhaaGreatKPutR
import Derived.Test.YtmckcnmlhgpnhaaGreatKLookS
import Derived.OwnWalk
namespace Go.Proofs.YtmckcnmlhgpnhaaGreat
set_option maxRecDepth 20000
open Go.RowKit Go.Maps
set_option linter.unusedSimpArgs false
set_option linter.unusedVariables false

theorem st_item {B : Nat} {w : World} {v : Value} {X : List (Nat × Int × Int)} (h : w.ownsRow B 117 3 v X.length (c3 X)) {i : Nat} (hi : i < X.length) : ∃ g cap, v = .slice (some ⟨g, 0, none⟩) X.length cap ∧ g < w.heap.size ∧ (∀ j, j < X.length → w.cell? ⟨g, j * 3, none⟩ = some (.int .i64 (((plS X).getD j 0 : Nat) : Int)) ∧ w.cell? ⟨g, j * 3 + 1, none⟩ = some (.int .i64 (X.getD j (0, 0, 0)).2.1) ∧ w.cell? ⟨g, j * 3 + 2, none⟩ = some (.int .i64 (X.getD j (0, 0, 0)).2.2)) := by
  have h0 := h
  obtain ⟨h1, h2⟩ := h
  rcases h2 with ⟨_, h0⟩ | ⟨g, cap, cur, rfl, hg, hc, hn, hcap, hs, hx⟩
  · omega
  · refine ⟨g, cap, rfl, (Array.getElem?_eq_some_iff.1 hc).1, fun j hj => ?_⟩
    obtain ⟨e1, e2, e3⟩ := c3_at X j hj
    rw [h0.cellAt (j * 3) (by omega), h0.cellAt (j * 3 + 1) (by omega), h0.cellAt (j * 3 + 2) (by omega), plS_get]
    exact ⟨e1, e2, e3⟩
theorem st_form {B : Nat} {w : World} {v : Value} {X : List (Nat × Int × Int)} (h : w.ownsRow B 117 3 v X.length (c3 X)) : ∃ a c, v = .slice a X.length c := by
  rcases h.2 with ⟨rfl, h0⟩ | ⟨g, cap, cur, rfl, _⟩
  · exact ⟨none, 0, by rw [h0]⟩
  · exact ⟨_, _, rfl⟩
set_option maxHeartbeats 8000000 in
theorem specKin_yes (aw : Option Addr) (cw : Nat) (ws : List Int) (semi toh top : Int) (cyc : Bool) (scan old copied serial : Int) (ar : Option Addr) (cr : Nat) (rs : List (Int × Int)) (y : Nat → Int) (Tr : Nat) (w : World) (r : Nat) (hr : r < rs.length) (hs : Sl w (.slice aw ws.length cw) ws) (hn : ws.length ≤ 1048576) (hw : Words64 ws) (hrt : SlF Tr w (.slice ar rs.length cr) rs.length (2 * rs.length) (fun i => .int .i64 (y i))) (hn2 : rs.length ≤ 1048576) (hok : ArOk ws semi toh top cyc scan old copied serial y rs.length) (mk : Nat → Int) (R : List (Nat × Int × Int)) (hK : Known mk ws cyc scan) (hCR : Come mk (plS R))
    (hreach : ∀ W avr cvr, Below w.heap.size w W → SlF W.heap.size W (.slice avr 1 cvr) 1 1 (fun i => .int .i64 (([r].getD i 0 : Nat) : Int)) → Calls Tryz.prog 83 #[.agg #[.slice aw ws.length cw, .int .i64 semi, .int .i64 toh, .int .i64 top, .bool cyc, .int .i64 scan, .int .i64 old, .int .i64 copied, .int .i64 serial, .slice ar rs.length cr], .slice avr 1 cvr] W fun e w' => ∃ v', e = .returned v' ∧ w'.ownsRow W.heap.size 117 3 v' R.length (c3 R) ∧ Below W.heap.size W w') :
    Calls Tryz.prog 35 #[.agg #[.slice aw ws.length cw, .int .i64 semi, .int .i64 toh, .int .i64 top, .bool cyc, .int .i64 scan, .int .i64 old, .int .i64 copied, .int .i64 serial, .slice ar rs.length cr], .int .i64 (r : Int)] w fun e w' => ∃ v, e = .returned v ∧ OwnF w.heap.size w'.heap.size 3 w' v (kinN ws (plS R)).length (kinN ws (plS R)).length (fun i => .int .i64 ((kinN ws (plS R)).getD i 0)) ∧ Below w.heap.size w w' := by
  obtain ⟨i0, hi, hz0, hz1', hz2⟩ := info_parts info3
  have HS : Hid (Sl w (.slice aw ws.length cw) ws) := hs
  have HR : Hid (SlF w.heap.size w (.slice ar rs.length cr) rs.length (2 * rs.length) (fun i => .int .i64 (y i))) := hrt.here
  have HQ : Hid (ArOk ws semi toh top cyc scan old copied serial y rs.length) := hok
  have HRE : Hid (∀ W avr cvr, Below w.heap.size w W → SlF W.heap.size W (.slice avr 1 cvr) 1 1 (fun i => .int .i64 (([r].getD i 0 : Nat) : Int)) → Calls Tryz.prog 83 #[.agg #[.slice aw ws.length cw, .int .i64 semi, .int .i64 toh, .int .i64 top, .bool cyc, .int .i64 scan, .int .i64 old, .int .i64 copied, .int .i64 serial, .slice ar rs.length cr], .slice avr 1 cvr] W fun e w' => ∃ v', e = .returned v' ∧ w'.ownsRow W.heap.size 117 3 v' R.length (c3 R) ∧ Below W.heap.size W w') := hreach
  have hRl : R.length ≤ ws.length := by rw [← plS_len]; exact come_length hK hCR
  have hRl' : (R.length : Int) ≤ 1048576 := by omega
  have HPL : Hid (∀ k, k < R.length → (plS R).getD k 0 < ws.length) := fun k hk => known_lt hK (hCR.2 _ (by simp [plS_len, hk]))
  have hrb : hasR (r : Int) rs.length = true := by unfold hasR; simp; omega
  have HRB : Hid (hasR (r : Int) rs.length = true) := hrb
  have fz := field_serial
  clear hs hrt hok hreach hK hCR hrb
  go_enter Tryz.func35, Tryz.ntmps35
  go_upto_region 2 with fail
  obtain ⟨w0, hw0⟩ : ∃ V, V = (w.alloc (.cells #[.slice aw ws.length cw, .int .i64 semi, .int .i64 toh, .int .i64 top, .bool cyc, .int .i64 scan, .int .i64 old, .int .i64 copied, .int .i64 serial, .slice ar rs.length cr] 30)).alloc (.cells #[] 3) := ⟨_, rfl⟩
  rw [← hw0]
  have B0 : Below w.heap.size w w0 := by rw [hw0]; exact ((Below.refl _ _).alloc (Nat.le_refl _) _).alloc (by simp) _
  have k0 : ∀ i, w0.cell? ⟨w.heap.size, i, none⟩ = (#[.slice aw ws.length cw, .int .i64 semi, .int .i64 toh, .int .i64 top, .bool cyc, .int .i64 scan, .int .i64 old, .int .i64 copied, .int .i64 serial, .slice ar rs.length cr] : Array Value)[i]? := fun i => by rw [hw0]; simp [go_sem]
  have z0 : w.heap.size + 1 < w0.heap.size := by rw [hw0]; simp
  have I0 : IR w.heap.size w0 (.slice (some ⟨w.heap.size + 1, 0, none⟩) 0 0) [] := by
    have := IR.new (B := w.heap.size) (w := w.alloc (.cells #[.slice aw ws.length cw, .int .i64 semi, .int .i64 toh, .int .i64 top, .bool cyc, .int .i64 scan, .int .i64 old, .int .i64 copied, .int .i64 serial, .slice ar rs.length cr] 30)) [] (by simp) (by simp)
    rw [hw0]
    simpa [icl] using this
  clear hw0
  go_wp2_with fail
  refine (specArenaOk_at _ _ _ _ _ _ _ _ _ _ _ _ _ _ y w.heap.size _ (HS.out.below B0) hn hw (HR.out.below B0 (Nat.le_refl _)) hn2).mono ?_
  rintro e w1 ⟨q, rfl, hq, b1⟩
  obtain rfl := hq.2 HQ.out
  have B1 := below_next B0 b1
  have k1 := has_below k0 b1 (by omega)
  have I1 := I0.below b1
  have z1 := b1.size
  clear b1 hq k0 B0 I0
  go_wp2_with fail
  refine (l2Root_any _ _ _ _ _ _ _ _ _ _ _ _ _ _ (r : Int) _ hn2).mono ?_
  rw [HRB.out]
  rintro e w2 ⟨rfl, b2⟩
  have B2 := below_next B1 b2
  have k2 := has_below k1 b2 (by omega)
  have I2 := I1.below b2
  have z2 := b2.size
  clear b2 k1 B1 I1
  have a3 : Below w2.heap.size w2 (w2.alloc (.cells #[.int .i64 (r : Int)] 3)) := (Below.refl _ _).alloc (Nat.le_refl _) _
  have k3 := has_below k2 a3 (by omega)
  have s3 : SlF (w2.alloc (.cells #[.int .i64 (r : Int)] 3)).heap.size (w2.alloc (.cells #[.int .i64 (r : Int)] 3)) (.slice (some ⟨w2.heap.size, 0, none⟩) 1 1) 1 1 (fun i => .int .i64 (([r].getD i 0 : Nat) : Int)) := ⟨_, _, rfl, .inr ⟨w2.heap.size, 0, rfl, by simp, by simp, fun i hi => (by obtain rfl : i = 0 := (by omega); simp [go_sem])⟩⟩
  have HI3 : Hid (IR w.heap.size (w2.alloc (.cells #[.int .i64 (r : Int)] 3)) (.slice (some ⟨w.heap.size + 1, 0, none⟩) 0 0) []) := I2.below a3
  have HS3 := s3
  clear s3 a3 k3 I2
  go_wp2_with fail
  refine (HRE.out _ _ _ (below_next B2 ((Below.refl _ _).alloc (Nat.le_refl _) _)) HS3).mono ?_
  rintro e w4 ⟨v4, rfl, o4, b4⟩
  have B4 : Hid (Below w.heap.size w w4) := (below_next B2 ((Below.refl _ _).alloc (Nat.le_refl _) _)).trans (b4.mono (by have := B2.size; simp; omega))
  have k4 : Hid (∀ i, w4.cell? ⟨w.heap.size, i, none⟩ = (#[.slice aw ws.length cw, .int .i64 semi, .int .i64 toh, .int .i64 top, .bool cyc, .int .i64 scan, .int .i64 old, .int .i64 copied, .int .i64 serial, .slice ar rs.length cr] : Array Value)[i]?) := has_below k2 (((Below.refl w2.heap.size w2).alloc (Nat.le_refl _) _).trans (b4.mono (by simp))) (by omega)
  have I4 : Hid (IR w.heap.size w4 (.slice (some ⟨w.heap.size + 1, 0, none⟩) 0 0) []) := HI3.out.below b4
  have z4 : w.heap.size < w4.heap.size := by have := b4.size; simp at this; omega
  have O4 : Hid (w4.ownsRow w2.heap.size 117 3 v4 R.length (c3 R)) := owns_mono o4 (by simp)
  obtain ⟨a4, c4, rfl⟩ := st_form o4
  clear o4 b4 HI3 HS3 k2 B2 HRE HRB HQ HR
  go_wp2_with fail
  go_loopw [5, 7] (fun v i wr => ∃ (k : Nat) (u : Value), k ≤ R.length ∧ u = v ∧ i = .int .i64 k ∧ IR w.heap.size wr u (kinN ws ((plS R).take k)) ∧ u ≠ .slice none 0 0 ∧ Below w4.heap.size w4 wr) (fun _ i _ => R.length - (intOf i).toNat)
  case atStart => exact ⟨0, _, Nat.zero_le _, rfl, rfl, I4.out, by simp, Below.refl _ _⟩
  case round =>
    obtain ⟨k, u, hk, rfl, rfl, hU, hne, hF⟩ := hrel
    by_cases hlt : k < R.length
    · have hlt' : (k : Int) < (R.length : Int) := by omega
      obtain ⟨g, cap, hv, lg, hgc⟩ := st_item O4.out hlt
      simp only [Value.slice.injEq] at hv
      obtain ⟨rfl, _, rfl⟩ := hv
      obtain ⟨p, hp⟩ : ∃ p, p = (plS R).getD k 0 := ⟨_, rfl⟩
      have hpl : p < ws.length := by rw [hp]; exact HPL.out k hlt
      have x0 : wr.cell? ⟨g, k * 3, none⟩ = some (.int .i64 (p : Int)) := by rw [hF.cell (p := ⟨g, k * 3, none⟩) lg, hp]; exact (hgc k hlt).1
      have kr := has_below k4.out hF z4
      have zr := hF.size
      have BW : Hid (Below w.heap.size w wr) := B4.out.trans (hF.mono (by omega))
      have hKN : kinN ws ((plS R).take (k + 1)) = kinP ws (kinN ws ((plS R).take k)) p := by rw [kinN_take ws (plS R) (by rw [plS_len]; exact hlt), hp]
      have HKN : Hid (kinN ws ((plS R).take (k + 1)) = kinP ws (kinN ws ((plS R).take k)) p) := hKN
      have hol : (kinN ws ((plS R).take k)).length ≤ 1048576 := by have h1 := kinN_len ws ((plS R).take k); have h2 := List.length_take_le k (plS R); omega
      obtain ⟨out, hout⟩ : ∃ o, o = kinN ws ((plS R).take k) := ⟨_, rfl⟩
      rw [← hout] at hU HKN hol
      have HLK : Hid (∀ W, Below wr.heap.size wr W → Calls Tryz.prog 43 #[.agg #[.slice aw ws.length cw, .int .i64 semi, .int .i64 toh, .int .i64 top, .bool cyc, .int .i64 scan, .int .i64 old, .int .i64 copied, .int .i64 serial, .slice ar rs.length cr], .int .i64 (p : Int)] W fun e w' => e = .returned (.agg #[.int .i64 (rdK (wordAt ws p)), .int .i64 (rdS (wordAt ws p)), .int .i64 (rdN (wordAt ws p))]) ∧ Below W.heap.size W w') := fun W hW => l2Look_any aw cw ws semi toh top cyc scan old copied serial ar cr rs p W (HS.out.below (below_next BW.out hW)) hn hw hpl
      have KP : ∀ V, Below wr.heap.size wr V → (Below wr.heap.size wr V ∧ (∀ i, V.cell? ⟨w.heap.size, i, none⟩ = (#[.slice aw ws.length cw, .int .i64 semi, .int .i64 toh, .int .i64 top, .bool cyc, .int .i64 scan, .int .i64 old, .int .i64 copied, .int .i64 serial, .slice ar rs.length cr] : Array Value)[i]?) ∧ V.cell? ⟨g, k * 3, none⟩ = some (.int .i64 (p : Int))) := fun V hV => ⟨hV, has_below kr hV (by omega), by rw [hV.cell (p := ⟨g, k * 3, none⟩) (by show g < wr.heap.size; omega)]; exact x0⟩
      have bd' := (Below.refl wr.heap.size wr).drew
      have HU : Hid (IR w.heap.size wr u out) := hU
      have HNE : Hid (u ≠ .slice none 0 0) := hne
      have HF : Hid (Below w4.heap.size w4 wr) := hF
      unfold kinP at HKN
      obtain ⟨s, hsq⟩ : ∃ s, s = rdN (wordAt ws p) := ⟨_, rfl⟩
      rw [← hsq] at HKN HLK
      clear hU hne hF hgc hp hKN hout hsq I4 HPL
      go_wp2_with fail
      go_region_held3 (fun V => Below wr.heap.size wr V ∧ (∀ i, V.cell? ⟨w.heap.size, i, none⟩ = (#[.slice aw ws.length cw, .int .i64 semi, .int .i64 toh, .int .i64 top, .bool cyc, .int .i64 scan, .int .i64 old, .int .i64 copied, .int .i64 serial, .slice ar rs.length cr] : Array Value)[i]?) ∧ V.cell? ⟨g, k * 3, none⟩ = some (.int .i64 (p : Int))) (first | assumption | exact KP _ bd' | exact KP _ (by assumption)) (first | (go_at_call 43; refine (HLK.out _ (And.left (by assumption))).mono ?_; rintro e wc ⟨rfl, bb⟩; have hBl := below_next (w := wr) (And.left (by assumption)) bb; clear bb))
      rename_i hHl
      have HBc : Hid (Below w4.heap.size w4 wc) := HF.out.trans (hBl.mono (by omega))
      have BWc : Hid (Below w.heap.size w wc) := below_next BW.out hBl
      have HUc : Hid (IR w.heap.size wc u out) := HU.out.below hBl
      clear hHl KP bd' kr x0 HU HF BW HLK hBl
      by_cases hs0 : s = 0
      · subst hs0
        have HU1 : Hid (IR w.heap.size wc u (kinN ws ((plS R).take (k + 1)))) := by show IR _ _ _ _; rw [HKN.out, if_pos rfl]; exact HUc.out
        go_wp2
        go_roundw
        case rel => exact ⟨k + 1, _, by omega, rfl, by go_num, HU1.out, HNE.out, HBc.out⟩
        case measure => simp [intOf]; omega
      · rw [if_neg hs0] at HKN
        have hs1 : (s == 0) = false := by simpa using hs0
        have HS0 : Hid (s ≠ 0) := hs0
        obtain ⟨bo, co, rfl, hoc, lbo, hox⟩ := ir_parts HUc.out HNE.out
        have HXo : Hid (∀ i, i < out.length → wc.cell? ⟨bo, i, none⟩ = some (.int .i64 (out.getD i 0))) := hox
        have hol' : (out.length : Int) ≤ 1048576 := by omega
        have hll := lowN_le out s
        clear hs0 hox HUc HNE
        go_wp2_with fail
        go_loopw [9] (fun q wr2 => ∃ j : Nat, j ≤ lowN out s ∧ q = .int .i64 j ∧ wr2 = wc) (fun q _ => lowN out s - (intOf q).toNat)
        case atStart => exact ⟨0, Nat.zero_le _, rfl, rfl⟩
        case round =>
          obtain ⟨j, hj, rfl, he⟩ := hrel
          subst wr
          by_cases hjl : j < lowN out s
          · have hlt3 := lowN_lt out s j hjl
            have hjL : (j : Int) < (out.length : Int) := by omega
            have xj := HXo.out j (by omega)
            generalize out.getD j 0 = oj at xj hlt3
            go_wp2
            go_roundw
            case rel => exact ⟨j + 1, by omega, by go_num, by first | rfl | trivial⟩
            case measure => simp [intOf]; omega
          · have hjl : j = lowN out s := by omega
            have hj1 : j ≤ out.length := by omega
            obtain ⟨ob, hob⟩ : ∃ ob, ob = (if co = j then 0 else j) := ⟨_, rfl⟩
            have hsl1 : ∀ W, (Instr.sliceAt 64 (.slice (some ⟨bo, 0, none⟩) out.length co) (some (.int .i64 (j : Int))) none none).run Tryz.prog W = .ok (.slice (some ⟨bo, ob, none⟩) (out.length - j) (co - j)) W := fun W => by rw [hob]; exact isl_lo bo out.length j co hj1 hoc W
            have hsl2 := fun W => isl_hi bo out.length j co (by omega) W
            have hob2 : 0 < out.length - j → ob = j := fun h => by rw [hob, if_neg (by omega)]
            have szc := BWc.out.size
            have hs0 := HS0.out
            clear hob hj hll
            have hE : True := trivial
            have hco : ¬ ((j : Int) < (out.length : Int)) ∨ ((j : Int) < (out.length : Int) ∧ ∃ oj : Int, wc.cell? ⟨bo, j, none⟩ = some (.int .i64 oj) ∧ ¬ oj < s) := by
              by_cases h : j < out.length
              · exact .inr ⟨by omega, _, HXo.out j h, by rw [hjl]; exact lowN_ge out s (by rw [← hjl]; exact h)⟩
              · exact .inl (by omega)
            have HJL : Hid (j = lowN out s) := hjl
            have HS1 : Hid (s ≠ 0) := hs0
            clear hjl hs0
            rcases hco with hco | ⟨hco, oj, xj, hoj⟩
            all_goals
              have a1 : IR w.heap.size (wc.alloc (.cells #[.int .i64 s] 3)) (.slice (some ⟨wc.heap.size, 0, none⟩) 1 1) [s] := by simpa [icl] using IR.new [s] szc (by simp)
              have hn1 : ∀ i u, (icl (out.drop j))[i]? = some u → (wc.alloc (.cells #[.int .i64 s] 3)).cell? ((⟨bo, ob, none⟩ : Addr).add i) = some u := fun i u hu => by
                obtain ⟨hi, rfl⟩ := icl_some hu
                rw [List.length_drop] at hi
                rw [Addr.add_lit, cell_new_old lbo, hob2 (by omega), HXo.out (j + i) (by omega)]
                simp
              go_wp2_with (at_builtin; refine wpList_append_own _ rfl _ _ 64 rfl (w.heap.size) 3 i0 (.int .i64 0) 1 8 Tryz.underlying64 hi hz0 hz1' hz2 rfl (by decide) (.slice (some ⟨wc.heap.size, 0, none⟩) 1 1) (1) (icl ([s])) rfl (a1) ⟨bo, ob, none⟩ (out.length - j) (co - j) (icl (out.drop j)) rfl (by rw [icl_len, List.length_drop, Nat.mul_one]) (hn1) (ints_oneCell .i64 _) (by unfold maxLen; omega) (by omega) (by first | omega | (simp; done) | (simp; omega)) ?_)
              intro v5 w5 hown hgrow hnil
              have n5 : v5 ≠ .slice none 0 0 := by first | exact hnil | exact fun e => by have := (hnil.1 e).1; simp at this
              have I5 : IR w.heap.size w5 v5 ([s] ++ out.drop j) := by
                unfold IR
                rw [icl_append, List.length_append, List.length_singleton, List.length_drop]
                exact hown
              have B5 : Below wc.heap.size wc w5 := Below.grown ((Below.refl wc.heap.size wc).alloc (Nat.le_refl _) _) hgrow (by simp) (fun g hg => by simp [Value.ownBlock] at hg; omega)
              obtain ⟨b5, c5, rfl, hc5, lb5, hx5⟩ := ir_parts I5 n5
              have e5 : ([s] ++ out.drop j).length = out.length - j + 1 := by simp
              rw [e5] at hc5 hx5 hown ⊢
              have BW5 : Hid (Below w.heap.size w w5) := BWc.out.trans (B5.mono BWc.out.size)
              have HI5 : Hid (∀ i, i < out.length - j + 1 → w5.cell? ⟨b5, i, none⟩ = some (.int .i64 (([s] ++ out.drop j).getD i 0))) := hx5
              have HX5 : Hid (∀ i, i < out.length → w5.cell? ⟨bo, i, none⟩ = some (.int .i64 (out.getD i 0))) := fun i hi => by rw [B5.cell (p := ⟨bo, i, none⟩) lbo]; exact HXo.out i hi
              have HB5 : Hid (Below w4.heap.size w4 w5) := HBc.out.trans (B5.mono HBc.out.size)
              have lbo5 : bo < w5.heap.size := Nat.lt_of_lt_of_le lbo B5.size
              have sz5 := BW5.out.size
              clear hown hgrow hnil n5 I5 B5 hx5 hsl1
              have a2 : IR w5.heap.size (w5.alloc (.cells #[] 3)) (.slice (some ⟨w5.heap.size, 0, none⟩) 0 0) [] := by simpa [icl] using IR.new (w := w5) [] (Nat.le_refl w5.heap.size) (by simp)
              have hn2 : ∀ i u, (icl (out.take j))[i]? = some u → (w5.alloc (.cells #[] 3)).cell? ((⟨bo, 0, none⟩ : Addr).add i) = some u := fun i u hu => by
                obtain ⟨hi, rfl⟩ := icl_some hu
                rw [List.length_take] at hi
                rw [Addr.add_lit, Nat.zero_add, cell_new_old lbo5, HX5.out i (by omega)]
                simp [show i < j by omega]
              go_wp2_with (at_builtin; refine wpList_append_own _ rfl _ _ 64 rfl (w5.heap.size) 3 i0 (.int .i64 0) 1 8 Tryz.underlying64 hi hz0 hz1' hz2 rfl (by decide) (.slice (some ⟨w5.heap.size, 0, none⟩) 0 0) (0) (icl ([])) rfl (a2) ⟨bo, 0, none⟩ (j) (co) (icl (out.take j)) rfl (by rw [icl_len, List.length_take, Nat.min_eq_left hj1, Nat.mul_one]) (hn2) (ints_oneCell .i64 _) (by unfold maxLen; omega) (by omega) (by first | omega | (simp; done) | (simp; omega)) ?_)
              intro v6 w6 hown hgrow hnil
              have n6 : v6 ≠ .slice none 0 0 := by first | exact hnil | exact fun e => by have := (hnil.1 e).1; simp at this
              have I6 : IR w5.heap.size w6 v6 (out.take j) := by
                have := hown
                unfold IR
                rw [List.length_take, Nat.min_eq_left hj1]
                simpa [show icl [] = [] from rfl] using this
              have B6 : Below w5.heap.size w5 w6 := Below.grown ((Below.refl w5.heap.size w5).alloc (Nat.le_refl _) _) hgrow (by simp) (fun g hg => by simp [Value.ownBlock] at hg; omega)
              have HI6 : Hid (IR w5.heap.size w6 v6 (out.take j)) := I6
              have HN6 : Hid (v6 ≠ .slice none 0 0) := n6
              have BW6 : Hid (Below w5.heap.size w5 w6) := B6
              have hx6 : ∀ i, i < out.length - j + 1 → w6.cell? ⟨b5, i, none⟩ = some (.int .i64 (([s] ++ out.drop j).getD i 0)) := fun i hi => by rw [B6.cell (p := ⟨b5, i, none⟩) lb5]; exact HI5.out i hi
              have HX6 : Hid (∀ i, i < out.length - j + 1 → w6.cell? ⟨b5, i, none⟩ = some (.int .i64 (([s] ++ out.drop j).getD i 0))) := hx6
              have sz6 := B6.size
              have lt6 : (out.take j).length = j := by rw [List.length_take, Nat.min_eq_left hj1]
              clear hown hgrow hnil n6 I6 B6 HX5 HI5 hx6 hsl2
              have a3 : w6.ownsRow w5.heap.size 3 1 v6 j (icl (out.take j)) := by have := HI6.out; unfold IR at this; rw [lt6] at this; exact this
              have hn3 : ∀ i u, (icl ([s] ++ out.drop j))[i]? = some u → w6.cell? ((⟨b5, 0, none⟩ : Addr).add i) = some u := fun i u hu => by
                obtain ⟨hi, rfl⟩ := icl_some hu
                rw [e5] at hi
                rw [Addr.add_lit, Nat.zero_add]
                exact HX6.out i hi
              go_wp2_with (at_builtin; refine wpList_append_own _ rfl _ _ 64 rfl (w5.heap.size) 3 i0 (.int .i64 0) 1 8 Tryz.underlying64 hi hz0 hz1' hz2 rfl (by decide) (v6) (j) (icl (out.take j)) rfl (a3) ⟨b5, 0, none⟩ (out.length - j + 1) (c5) (icl ([s] ++ out.drop j)) rfl (by rw [icl_len, e5, Nat.mul_one]) (hn3) (ints_oneCell .i64 _) (by unfold maxLen; omega) (by omega) (by first | omega | (simp; done) | (simp; omega)) ?_)
              intro v7 w7 hown hgrow hnil
              have n7 : v7 ≠ .slice none 0 0 := by first | exact hnil | exact fun e => HN6.out (hnil.1 e).1
              have I7 : IR w.heap.size w7 v7 (insS out s) := by
                have h7 : IR w5.heap.size w7 v7 (out.take j ++ ([s] ++ out.drop j)) := by
                  unfold IR
                  rw [icl_append, List.length_append, e5, lt6]
                  exact hown
                have e7 : insS out s = out.take j ++ ([s] ++ out.drop j) := by unfold insS; rw [← HJL.out]; rfl
                rw [e7]
                exact IR.mono h7 sz5
              have B7 : Below w5.heap.size w5 w7 := BW6.out.grown hgrow sz6 (fun g hg => (World.ownsRow.lt HI6.out g hg).1)
              have HI7 : Hid (IR w.heap.size w7 v7 (kinN ws ((plS R).take (k + 1)))) := by show IR _ _ _ _; rw [HKN.out]; exact I7
              have HN7 : Hid (v7 ≠ .slice none 0 0) := n7
              have HB7 : Hid (Below w4.heap.size w4 w7) := HB5.out.trans (B7.mono HB5.out.size)
              clear hown hgrow hnil n7 I7 B7 HI6 HN6 HX6
              go_wp2
              go_roundw
              case rel => exact ⟨k + 1, _, by omega, rfl, by go_num, HI7.out, HN7.out, HB7.out⟩
              case measure => simp [intOf]; omega
    · have hge : (R.length : Int) ≤ (k : Int) := by omega
      obtain rfl : k = R.length := by omega
      rw [show (plS R).take R.length = plS R by rw [← plS_len R, List.take_length]] at hU
      have HU : Hid (OwnF w.heap.size wr.heap.size 3 wr u (kinN ws (plS R)).length (kinN ws (plS R)).length (fun i => .int .i64 ((kinN ws (plS R)).getD i 0))) := ir_own hU
      have BW : Hid (Below w.heap.size w wr) := B4.out.trans (hF.mono (by omega))
      clear hU hne hF
      go_wp2
      go_ret
      exact ⟨_, rfl, HU.out, BW.out⟩
set_option maxHeartbeats 4000000 in
theorem specKin_no (aw : Option Addr) (cw : Nat) (ws : List Int) (semi toh top : Int) (cyc : Bool) (scan old copied serial : Int) (ar : Option Addr) (cr : Nat) (rs : List (Int × Int)) (x0 : Int) (y : Nat → Int) (Tr : Nat) (w : World) (hs : Sl w (.slice aw ws.length cw) ws) (hn : ws.length ≤ 1048576) (hw : Words64 ws) (hrt : SlF Tr w (.slice ar rs.length cr) rs.length (2 * rs.length) (fun i => .int .i64 (y i))) (hn2 : rs.length ≤ 1048576) (hno : ¬ ArOk ws semi toh top cyc scan old copied serial y rs.length ∨ hasR x0 rs.length = false) :
    Calls Tryz.prog 35 #[.agg #[.slice aw ws.length cw, .int .i64 semi, .int .i64 toh, .int .i64 top, .bool cyc, .int .i64 scan, .int .i64 old, .int .i64 copied, .int .i64 serial, .slice ar rs.length cr], .int .i64 x0] w fun e w' => ∃ v, e = .returned v ∧ OwnF w.heap.size w'.heap.size 3 w' v 0 0 (fun i => .int .i64 (([] : List Int).getD i 0)) ∧ Below w.heap.size w w' := by
  have HS : Hid (Sl w (.slice aw ws.length cw) ws) := hs
  have HR : Hid (SlF w.heap.size w (.slice ar rs.length cr) rs.length (2 * rs.length) (fun i => .int .i64 (y i))) := hrt.here
  have HQ : Hid (¬ ArOk ws semi toh top cyc scan old copied serial y rs.length ∨ hasR x0 rs.length = false) := hno
  clear hs hrt hno
  go_enter Tryz.func35, Tryz.ntmps35
  go_upto_region 2 with fail
  obtain ⟨w0, hw0⟩ : ∃ V, V = (w.alloc (.cells #[.slice aw ws.length cw, .int .i64 semi, .int .i64 toh, .int .i64 top, .bool cyc, .int .i64 scan, .int .i64 old, .int .i64 copied, .int .i64 serial, .slice ar rs.length cr] 30)).alloc (.cells #[] 3) := ⟨_, rfl⟩
  rw [← hw0]
  have B0 : Below w.heap.size w w0 := by rw [hw0]; exact ((Below.refl _ _).alloc (Nat.le_refl _) _).alloc (by simp) _
  have k0 : ∀ i, w0.cell? ⟨w.heap.size, i, none⟩ = (#[.slice aw ws.length cw, .int .i64 semi, .int .i64 toh, .int .i64 top, .bool cyc, .int .i64 scan, .int .i64 old, .int .i64 copied, .int .i64 serial, .slice ar rs.length cr] : Array Value)[i]? := fun i => by rw [hw0]; simp [go_sem]
  have z0 : w.heap.size + 1 < w0.heap.size := by rw [hw0]; simp
  clear hw0
  go_wp2_with fail
  refine (specArenaOk_at _ _ _ _ _ _ _ _ _ _ _ _ _ _ y w.heap.size _ (HS.out.below B0) hn hw (HR.out.below B0 (Nat.le_refl _)) hn2).mono ?_
  rintro e w1 ⟨q, rfl, hq, b1⟩
  have B1 := below_next B0 b1
  have k1 := has_below k0 b1 (by omega)
  have z1 := b1.size
  have HQ1 : Hid (q = true ↔ ArOk ws semi toh top cyc scan old copied serial y rs.length) := hq
  clear b1 hq k0 B0
  cases q with
  | false =>
    go_wp2
    go_ret
    exact ⟨_, rfl, ⟨_, _, rfl, .inl rfl⟩, B1⟩
  | true =>
  have hrb : hasR x0 rs.length = false := HQ.out.resolve_left (fun h => h (HQ1.out.1 rfl))
  have HRB : Hid (hasR x0 rs.length = false) := hrb
  clear hrb
  go_wp2_with fail
  refine (l2Root_any _ _ _ _ _ _ _ _ _ _ _ _ _ _ x0 _ hn2).mono ?_
  rw [HRB.out]
  rintro e w2 ⟨rfl, b2⟩
  have B2 := below_next B1 b2
  clear b2 k1 B1
  go_wp2
  go_ret
  exact ⟨_, rfl, ⟨_, _, rfl, .inl rfl⟩, B2⟩
end Go.Proofs.YtmckcnmlhgpnhaaGreat
