/- The model's Reached. -/
import Derived.Test.YtmckcnmlhgpnhaaGreatProg
import Derived.Test.YtmckcnmlhgpnhaaGreatKKwS
import Derived.Deep.RegionHeld3
import Derived.Deep.CutRange
import Derived.Test.YtmckcnmlhgpnhaaGreatKHeadL
namespace Go.Proofs.YtmckcnmlhgpnhaaGreat
set_option maxRecDepth 20000
open Go.RowKit Go.Maps
set_option linter.unusedSimpArgs false
set_option linter.unusedVariables false

set_option maxHeartbeats 1000000 in
theorem specReached_no (aw : Option Addr) (cw : Nat) (ws : List Int) (semi toh top : Int) (cyc : Bool) (scan old copied serial : Int) (ar : Option Addr) (cr : Nat) (rs : List (Int × Int)) (y : Nat → Int) (Tr : Nat) (w : World) (hs : Sl w (.slice aw ws.length cw) ws) (hn : ws.length ≤ 1048576) (hw : Words64 ws) (hrt : SlF Tr w (.slice ar rs.length cr) rs.length (2 * rs.length) (fun i => .int .i64 (y i))) (hn2 : rs.length ≤ 1048576) (hok : ¬ ArOk ws semi toh top cyc scan old copied serial y rs.length) :
    Calls Tryz.prog 11 #[.agg #[.slice aw ws.length cw, .int .i64 semi, .int .i64 toh, .int .i64 top, .bool cyc, .int .i64 scan, .int .i64 old, .int .i64 copied, .int .i64 serial, .slice ar rs.length cr]] w fun e w' => e = .returned (.int .i64 0) ∧ Below w.heap.size w w' := by
  have HS : Hid (Sl w (.slice aw ws.length cw) ws) := hs
  have HR : Hid (SlF w.heap.size w (.slice ar rs.length cr) rs.length (2 * rs.length) (fun i => .int .i64 (y i))) := hrt.here
  have HQ : Hid (¬ ArOk ws semi toh top cyc scan old copied serial y rs.length) := hok
  clear hs hrt hok
  go_enter Tryz.func11, Tryz.ntmps11
  go_wp2_with fail
  refine (specArenaOk_at _ _ _ _ _ _ _ _ _ _ _ _ _ _ y w.heap.size _ (HS.out.below (below_first (Below.refl _ _))) hn hw (HR.out.below (below_first (Below.refl _ _)) (Nat.le_refl _)) hn2).mono ?_
  rintro e w1 ⟨q, rfl, hq, b1⟩
  obtain rfl : q = false := by
    cases q with
    | false => rfl
    | true => exact absurd (hq.1 rfl) HQ.out
  have B1 := below_first b1
  go_wp2
  go_ret
  exact ⟨rfl, B1⟩
set_option maxHeartbeats 4000000 in
theorem specReached_yes (aw : Option Addr) (cw : Nat) (ws : List Int) (semi toh top : Int) (cyc : Bool) (scan old copied serial : Int) (ar : Option Addr) (cr : Nat) (rs : List (Int × Int)) (y : Nat → Int) (Tr : Nat) (w : World) (hs : Sl w (.slice aw ws.length cw) ws) (hn : ws.length ≤ 1048576) (hw : Words64 ws) (hrt : SlF Tr w (.slice ar rs.length cr) rs.length (2 * rs.length) (fun i => .int .i64 (y i))) (hn2 : rs.length ≤ 1048576) (hok : ArOk ws semi toh top cyc scan old copied serial y rs.length) (mk : Nat → Int) (R : List Nat) (hK : Known mk ws cyc scan) (hB : Bfs ws 0 (comeN ws (rootF y) rs.length []) R) (hC : Come mk (comeN ws (rootF y) rs.length [])) :
    Calls Tryz.prog 11 #[.agg #[.slice aw ws.length cw, .int .i64 semi, .int .i64 toh, .int .i64 top, .bool cyc, .int .i64 scan, .int .i64 old, .int .i64 copied, .int .i64 serial, .slice ar rs.length cr]] w fun e w' => e = .returned (.int .i64 (sumW ws R)) ∧ Below w.heap.size w w' := by
  obtain ⟨i0, hi, hz0, hz1, hz2⟩ := info_parts info3
  have HRT : Hid (∀ k, k < rs.length → isR (y (2 * k)) = true → ∃ p : Nat, y (2 * k + 1) = (p : Int) ∧ p < ws.length ∧ (leadsAt ws (y (2 * k + 1)).toNat).toNat = p) := fun k hk hr => by
    obtain ⟨p, h1, _, _, h4, h5, _⟩ := ar_root hw hok hk hr
    exact ⟨p, h1, by omega, by rw [h1, Int.toNat_natCast, h5, Int.toNat_natCast]⟩
  have HCN : Hid (∀ k, (comeN ws (rootF y) k []).length ≤ k) := by
    intro k
    induction k with
    | zero => simp [comeN]
    | succ k ih =>
      show (comeP ws (comeN ws (rootF y) k []) _ _).length ≤ k + 1
      unfold comeP
      split
      · split
        · omega
        · simp; omega
      · omega
  have HS : Hid (Sl w (.slice aw ws.length cw) ws) := hs
  have HR : Hid (SlF w.heap.size w (.slice ar rs.length cr) rs.length (2 * rs.length) (fun i => .int .i64 (y i))) := hrt.here
  have HQ : Hid (ArOk ws semi toh top cyc scan old copied serial y rs.length) := hok
  have HK : Hid (Known mk ws cyc scan) := hK
  have HB : Hid (Bfs ws 0 (comeN ws (rootF y) rs.length []) R) := hB
  have HC : Hid (Come mk (comeN ws (rootF y) rs.length [])) := hC
  have hrl : rs.length ≤ 24 := by obtain ⟨_, _, _, _, _, h, _⟩ := num_facts hok.1; exact h
  have hn' : (ws.length : Int) ≤ 1048576 := by omega
  have hrl' : (rs.length : Int) ≤ 24 := by omega
  have hm1 := makeBools (ws.length : Int) (by omega) (by omega)
  rw [Int.toNat_natCast] at hm1
  clear hs hrt hok hK hB hC
  go_enter Tryz.func11, Tryz.ntmps11
  go_wp2_with fail
  refine (specArenaOk_at _ _ _ _ _ _ _ _ _ _ _ _ _ _ y w.heap.size _ (HS.out.below (below_first (Below.refl _ _))) hn hw (HR.out.below (below_first (Below.refl _ _)) (Nat.le_refl _)) hn2).mono ?_
  rintro e w1 ⟨q, rfl, hq, b1⟩
  obtain rfl := hq.2 HQ.out
  have B1 := below_first b1
  have k1 := one_cells b1 (by simp)
  have z1 := size_first b1
  clear b1 hq
  go_upto_region 5 with fail
  clear hm1
  obtain ⟨w2, hw2⟩ : ∃ V, V = (w1.alloc (.cells (madeCells #[.bool false] ws.length) 4)).alloc (.cells #[] 3) := ⟨_, rfl⟩
  rw [← hw2]
  have ST : Rst w1.heap.size ws.length w1 w2 (.slice (some ⟨w1.heap.size + 1, 0, none⟩) 0 0) [] := by
    rw [hw2]
    refine ⟨⟨rfl, .inr ⟨w1.heap.size + 1, 0, #[], rfl, Nat.le_refl _, alloc_at (by simp), Nat.le_refl _, by simp [maxLen], rfl, rfl⟩⟩, ?_, ((Below.refl _ _).alloc (Nat.le_refl _) _).alloc (by simp) _⟩
    exact ((World.rowIs_made w1 (.bool false) ws.length 4).of_block (((Below.refl _ _).alloc (Nat.le_refl _) _).block _ (by simp))).congr fun i _ => by simp
  have HST : Hid (Rst w1.heap.size ws.length w1 w2 (.slice (some ⟨w1.heap.size + 1, 0, none⟩) 0 0) []) := ST
  have HB1 : Hid (Below w.heap.size w w1) := B1
  have HK1 : Hid (∀ i, w1.cell? ⟨w.heap.size, i, none⟩ = (#[.slice aw ws.length cw, .int .i64 semi, .int .i64 toh, .int .i64 top, .bool cyc, .int .i64 scan, .int .i64 old, .int .i64 copied, .int .i64 serial, .slice ar rs.length cr] : Array Value)[i]?) := k1
  clear hw2 ST B1 k1
  go_wp2_with fail
  go_loopw [4, 5] (fun v i wr => ∃ k : Nat, k ≤ rs.length ∧ i = .int .i64 k ∧ Rst w1.heap.size ws.length w1 wr v (comeN ws (rootF y) k [])) (fun _ i _ => rs.length - (intOf i).toNat)
  case atStart => exact ⟨0, Nat.zero_le _, rfl, HST.out⟩
  case round =>
    obtain ⟨k, hk, rfl, hR⟩ := hrel
    obtain ⟨td, htd⟩ : ∃ td, td = comeN ws (rootF y) k [] := ⟨_, rfl⟩
    have hcl := HCN.out k
    rw [← htd] at hR hcl
    obtain ⟨ta, tc, rfl⟩ := hR.head
    have kr := has_below HK1.out hR.2.2 z1
    have lr := hR.lt
    have lH : w.heap.size < wr.heap.size := by omega
    have hB1r : Below w.heap.size w wr := HB1.out.trans (hR.2.2.mono (Nat.le_of_lt z1))
    by_cases hlt : k < rs.length
    · have hlt' : (k : Int) < (rs.length : Int) := by omega
      obtain ⟨br, offr, cap', hv, _, lbr, hcr⟩ := HR.out.parts (k := 0) (by omega)
      simp only [Value.slice.injEq] at hv
      obtain ⟨rfl, _, rfl⟩ := hv
      obtain ⟨t, ht⟩ : ∃ t, t = y (2 * k) := ⟨_, rfl⟩
      obtain ⟨m, hm⟩ : ∃ m, m = y (2 * k + 1) := ⟨_, rfl⟩
      have x0 : wr.cell? ⟨br, offr + k * 2, none⟩ = some (.int .i64 t) := by rw [hB1r.cell (p := ⟨br, offr + k * 2, none⟩) lbr, ht, Nat.mul_comm]; exact hcr (2 * k) (by omega)
      have x1 : wr.cell? ⟨br, offr + k * 2 + 1, none⟩ = some (.int .i64 m) := by rw [hB1r.cell (p := ⟨br, offr + k * 2 + 1, none⟩) lbr, hm, Nat.mul_comm]; exact hcr (2 * k + 1) (by omega)
      have lbr2 : br < wr.heap.size := Nat.lt_of_lt_of_le lbr hB1r.size
      have hrt := HRT.out k hlt
      rw [← ht, ← hm] at hrt
      have hnext : comeN ws (rootF y) (k + 1) [] = comeP ws td t m := by rw [htd, ht, hm]; rfl
      have HN : Hid (comeN ws (rootF y) (k + 1) [] = comeP ws td t m) := hnext
      have HRr : Hid (Rst w1.heap.size ws.length w1 wr (.slice ta td.length tc) td) := hR
      clear hnext htd hcr ht hm hB1r
      cases hr : isR t with
      | false =>
        have HRF : Hid (isR t = false) := hr
        have HE : Hid (comeP ws td t m = td) := comeP_no hr
        clear hR hrt hr
        go_wp2_with (go_at_call 42; refine (specIsRef_any _ _ _).mono ?_; rw [HRF.out]; rintro e w4 ⟨rfl, b4⟩; obtain ⟨hc4, hf4⟩ := bcell b4; have z4 := b4.size)
        go_roundw
        case rel => exact ⟨k + 1, by omega, by go_num, by rw [HN.out, HE.out]; exact HRr.out.below b4⟩
        case measure => simp [intOf]; omega
      | true =>
        have HRF : Hid (isR t = true) := hr
        obtain ⟨p, hp, hpl, hq⟩ := hrt hr
        subst hp
        have hpl' : (p : Int) < (ws.length : Int) := by omega
        by_cases hm : p ∈ td
        · have HE : Hid (comeP ws td t (p : Int) = td) := comeP_in hq hm
          have xs : wr.cell? ⟨w1.heap.size, p, none⟩ = some (.bool true) := by rw [hR.2.1.cell (by omega)]; simp [hm]
          clear hR hrt hr hm hq
          go_wp2_with (go_at_call 42; refine (specIsRef_any _ _ _).mono ?_; rw [HRF.out]; rintro e w4 ⟨rfl, b4⟩; obtain ⟨hc4, hf4⟩ := bcell b4; have z4 := b4.size)
          go_roundw
          case rel => exact ⟨k + 1, by omega, by go_num, by rw [HN.out, HE.out]; exact HRr.out.below b4⟩
          case measure => simp [intOf]; omega
        · have HE : Hid (comeP ws td t (p : Int) = td ++ [p]) := comeP_new hr hq hm
          have HM : Hid (p ∉ td) := hm
          have xs : wr.cell? ⟨w1.heap.size, p, none⟩ = some (.bool false) := by rw [hR.2.1.cell (by omega)]; simp [hm]
          have fs := hR.2.1.frozen
          have tl : td.length + 1 ≤ 25 := by omega
          have nb : br ≠ w1.heap.size := by have := HB1.out.size; omega
          have nH : w.heap.size ≠ w1.heap.size := by omega
          clear hR hrt hr hm hq hcl
          go_wp2_with (first | (go_at_call 42; refine (specIsRef_any _ _ _).mono ?_; rw [HRF.out]; rintro e w4 ⟨rfl, b4⟩; obtain ⟨hc4, hf4⟩ := bcell b4; have z4 := b4.size; have R4 : Hid (Rst w1.heap.size ws.length w1 w4 (.slice ta td.length tc) td) := HRr.out.below b4) | (at_builtin; refine wpList_append_own _ rfl _ _ 64 rfl (w1.heap.size + 1) 3 i0 (.int .i64 0) 1 8 Tryz.underlying64 hi hz0 hz1 hz2 rfl (by decide) _ td.length (cellsI td) rfl ((R4.out.marked _ _).alloc _) ⟨_, 0, none⟩ 1 1 [.int .i64 (p : Int)] rfl rfl (fun j u hj => by have h9 := cell_one_new (w4.setCell ⟨w1.heap.size, p, none⟩ (.bool true)) (.int .i64 (p : Int)) 3 j u hj; simpa using h9) (ints_oneCell .i64 [(p : Int)]) (by unfold maxLen; omega) (by omega) (by simp; omega) ?_))
          intro v' w6 hown hgrow _
          have R6 := R4.out.put hpl HM.out hown hgrow
          clear hown hgrow
          go_wp2
          go_roundw
          case rel => exact ⟨k + 1, by omega, by go_num, by rw [HN.out, HE.out]; exact R6⟩
          case measure => simp [intOf]; omega
    · have hge : (rs.length : Int) ≤ (k : Int) := by omega
      have hkk : k = rs.length := by omega
      have HRr : Hid (Rst w1.heap.size ws.length w1 wr (.slice ta td.length tc) (comeN ws (rootF y) rs.length [])) := by rw [← hkk, ← htd]; exact hR
      obtain ⟨t0, ht0⟩ : ∃ t, t = comeN ws (rootF y) rs.length [] := ⟨_, rfl⟩
      have htt : td = t0 := by rw [htd, hkk, ht0]
      rw [← ht0] at HB HC
      have HR0 : Hid (Rst w1.heap.size ws.length w1 wr (.slice ta td.length tc) t0) := by rw [← htt]; exact hR
      clear hkk htd htt ht0 hR HRr HCN HRT hcl hB1r
      go_wp2_with fail
      rename World => wr1
      clear kr
      go_loopw [4, 6, 7] (fun v u i wr => ∃ (n : Nat) (td : List Nat), n ≤ td.length ∧ i = .int .i64 n ∧ u = .int .i64 (sumW ws (td.take n)) ∧ Come mk td ∧ Bfs ws n td R ∧ Rst w1.heap.size ws.length w1 wr v td) (fun _ _ i _ => ws.length - (intOf i).toNat)
      case atStart => exact ⟨0, _, Nat.zero_le _, rfl, rfl, HC.out, HB.out, HR0.out⟩
      case round =>
        obtain ⟨n, td, hnl, rfl, rfl, hcome, hbfs, hR⟩ := hrel
        have hll : td.length ≤ ws.length := come_length HK.out hcome
        have hll' : (td.length : Int) ≤ (ws.length : Int) := by omega
        by_cases hlt : n < td.length
        · have hlt' : (n : Int) < (td.length : Int) := by omega
          obtain ⟨g, cap, rfl, hg1, hg2, hgc⟩ := hR.item hlt
          obtain ⟨p, hp⟩ : ∃ p, p = td.getD n 0 := ⟨_, rfl⟩
          rw [← hp] at hgc
          have hpm : p ∈ td := by rw [hp]; simp [hlt]
          have hobj := hcome.2 p hpm
          have hpl := known_lt HK.out hobj
          obtain ⟨hrd, hin⟩ := HK.out.within p hobj
          have kr := has_below HK1.out hR.2.2 z1
          have lr := hR.lt
          have lH : w.heap.size < wr.heap.size := by omega
          have hsb := rdS_bound (wordAt ws p)
          have HBw : Hid (Below w.heap.size w wr) := HB1.out.trans (hR.2.2.mono (Nat.le_of_lt z1))
          have HRr : Hid (Rst w1.heap.size ws.length w1 wr (.slice (some ⟨g, 0, none⟩) td.length cap) td) := hR
          have HCO : Hid (Come mk td) := hcome
          have HBF : Hid (Bfs ws n td R) := hbfs
          have HPD : Hid (p = td.getD n 0) := hp
          have HOB : Hid (isObj mk p) := hobj
          have KP : ∀ V, Below wr.heap.size wr V → (Below wr.heap.size wr V ∧ (∀ i, V.cell? ⟨w.heap.size, i, none⟩ = (#[.slice aw ws.length cw, .int .i64 semi, .int .i64 toh, .int .i64 top, .bool cyc, .int .i64 scan, .int .i64 old, .int .i64 copied, .int .i64 serial, .slice ar rs.length cr] : Array Value)[i]?) ∧ V.cell? ⟨g, n, none⟩ = some (.int .i64 (p : Int))) := fun V hV => ⟨hV, has_below kr hV lH, by rw [hV.cell (p := ⟨g, n, none⟩) hg2]; exact hgc⟩
          have sb := sumW_bound ws (td.take n)
          have sl : (td.take n).length ≤ n := List.length_take_le _ _
          obtain ⟨sm, hsm⟩ : ∃ s, s = sumW ws (td.take n) := ⟨_, rfl⟩
          rw [← hsm] at sb ⊢
          have sb1 : sm ≤ 257 * 1048576 := by omega
          have HSM : Hid (sm + rdS (wordAt ws p) + 1 = sumW ws (td.take (n + 1))) := by
            show _ = _
            rw [List.take_succ_eq_append_getElem hlt, hsm]
            have e : td[n] = p := by rw [hp]; simp [hlt]
            rw [e, sumW_snoc]
          clear hR hcome hbfs hobj hp hsm hpm
          go_upto_region 15 with fail
          go_cut [8] from 70 to 75 (fun s8 wc => ∃ c8 : Nat, s8 = .pointer (some ⟨c8, 0, none⟩) ∧ wc.cell? ⟨c8, 0, none⟩ = some (.int .i64 (rdK (wordAt ws p))) ∧ wc.cell? ⟨c8, 1, none⟩ = some (.int .i64 (rdS (wordAt ws p))) ∧ Below wr.heap.size wr wc)
          case first =>
            clear kr hgc
            go_region_held3 (fun V => (Below wr.heap.size wr V ∧ (∀ i, V.cell? ⟨w.heap.size, i, none⟩ = (#[.slice aw ws.length cw, .int .i64 semi, .int .i64 toh, .int .i64 top, .bool cyc, .int .i64 scan, .int .i64 old, .int .i64 copied, .int .i64 serial, .slice ar rs.length cr] : Array Value)[i]?) ∧ V.cell? ⟨g, n, none⟩ = some (.int .i64 (p : Int)))) (first | exact KP _ (by assumption) | exact KP _ (Below.refl _ _) | exact KP _ (Below.refl _ _).drew | exact KP _ (alloc_own (And.left (by assumption)) _) | (refine KP _ ?_; repeat (first | assumption | exact And.left (by assumption) | refine Below.setCell ?_ (by first | exact Nat.le_refl _ | (simp; done) | (simp; omega)) _ | refine alloc_own ?_ _))) (first | (go_at_call 43; refine (l2Look_at _ _ _ _ _ _ _ _ _ _ _ _ _ _ _ p _ rfl (HS.out.below (below_next HBw.out (And.left (by assumption)))) hn hw hpl).mono ?_; rintro e w' ⟨rfl, hb⟩; have hB3 := below_next (w := wr) (And.left (by assumption)) hb; have hz3 := hB3.size; obtain ⟨hc, hf⟩ := bcell hb; have hz := hb.size; simp at hz; clear hb))
            · go_wp2_with fail
              go_meet
              exact ⟨_, rfl, by simp [go_sem], by simp [go_sem], alloc_own hB3 _⟩
            · go_wp2_with fail
              go_meet
              have p0 : (w'.cell? ⟨wr.heap.size, 0, none⟩).isSome = true := by rw [hc _ _ (by simp)]; simp [go_sem]
              have p1 : (w'.cell? ⟨wr.heap.size, 1, none⟩).isSome = true := by rw [hc _ _ (by simp)]; simp [go_sem]
              have p2 : (w'.cell? ⟨wr.heap.size, 2, none⟩).isSome = true := by rw [hc _ _ (by simp)]; simp [go_sem]
              exact ⟨_, rfl, by simp [go_sem, p0, p1, p2], by simp [go_sem, p0, p1, p2], ((hB3.setCell (p := ⟨wr.heap.size, 0, none⟩) (Nat.le_refl _) _).setCell (p := ⟨wr.heap.size, 1, none⟩) (Nat.le_refl _) _).setCell (p := ⟨wr.heap.size, 2, none⟩) (Nat.le_refl _) _⟩
          case rest =>
            obtain ⟨c8, rfl, cv0, cv1, hBc⟩ := hcut
            have HRc : Hid (Rst w1.heap.size ws.length w1 wc (.slice (some ⟨g, 0, none⟩) td.length cap) td) := HRr.out.below hBc
            have lgc : g < wc.heap.size := Nat.lt_of_lt_of_le hg2 hBc.size
            clear KP kr hgc hBc HRr HBw
            have hsm1 : (0 : Int) ≤ rdS (wordAt ws p) := hsb.1
            go_wp2_with fail
            refine (specSlots_any _ _ _).mono ?_
            rintro e w4 ⟨v4, rfl, o4, b4⟩
            obtain ⟨asl, csl, rfl, hcase⟩ := o4
            obtain ⟨N, hN⟩ : ∃ N, N = slN (rdK (wordAt ws p)) (rdS (wordAt ws p)) := ⟨_, rfl⟩
            rw [← hN] at hcase ⊢
            have hN1 : N ≤ 128 := by rw [hN]; exact slN_le _ _
            have HN : Hid (N = slN (rdK (wordAt ws p)) (rdS (wordAt ws p))) := hN
            have HCASE : Hid (N = 0 ∨ ∃ b M gg, asl = some ⟨b, 0, none⟩ ∧ wc.heap.size ≤ b ∧ b < w4.heap.size ∧ N ≤ M ∧ w4.rowIs b 3 M gg ∧ ∀ i, i < N → gg i = .int .i64 (fs (rdK (wordAt ws p)) + 2 * (i : Int))) := hcase
            have HR4 : Hid (Rst w1.heap.size ws.length w1 w4 (.slice (some ⟨g, 0, none⟩) td.length cap) td) := HRc.out.below b4
            clear hN hcase b4 HRc cv0 cv1
            have HSL4 : Hid (SlR w1.heap.size asl N (rdK (wordAt ws p)) w4 (.slice (some ⟨g, 0, none⟩) td.length cap)) := by
              rcases HCASE.out with h | ⟨b, M, gg, h1, h2, h3, h4, h5, h6⟩
              · exact .inl h
              · refine .inr ⟨b, M, gg, h1, h4, h5, h6, by omega, ?_⟩
                simp [Value.ownBlock]
                omega
            clear HCASE
            rename_i wr0 _ _
            go_wp2_with fail
            go_loopw [4, 10] (fun v i wr => ∃ k : Nat, k ≤ N ∧ i = .int .i64 k ∧ Rst w1.heap.size ws.length w1 wr v (comeN ws (slotF ws p) k td) ∧ SlR w1.heap.size asl N (rdK (wordAt ws p)) wr v) (fun _ i _ => N - (intOf i).toNat)
            case atStart => exact ⟨0, Nat.zero_le _, rfl, HR4.out, HSL4.out⟩
            case round =>
              obtain ⟨k, hk, rfl, hR, hSl⟩ := hrel
              obtain ⟨tk, htk⟩ : ∃ tk, tk = comeN ws (slotF ws p) k td := ⟨_, rfl⟩
              rw [← htk] at hR
              by_cases hlt3 : k < N
              · have hlt3' : (k : Int) < (N : Int) := by omega
                have hck : Come mk tk := by rw [htk]; exact comeN_good k HCO.out (fun j hj => known_slots HK.out HOB.out hpl j (by have := HN.out; omega))
                obtain ⟨l, hl⟩ := comeN_pre ws (slotF ws p) k td
                rw [← htk] at hl
                have hnk : n < tk.length := by rw [hl, List.length_append]; omega
                have hpk : tk.getD n 0 = p := by rw [hl, getD_pre hlt, HPD.out]
                have hkl : tk.length ≤ ws.length := come_length HK.out hck
                obtain ⟨g', cap', rfl, hg1', hg2', hgc'⟩ := hR.item hnk
                rw [hpk] at hgc'
                obtain ⟨bsl, M, gg, rfl, hNM, hrow, hgg, hbb, hob⟩ : ∃ b M gg, asl = some ⟨b, 0, none⟩ ∧ N ≤ M ∧ wr.rowIs b 3 M gg ∧ (∀ i, i < N → gg i = .int .i64 (fs (rdK (wordAt ws p)) + 2 * (i : Int))) ∧ w1.heap.size < b ∧ (Value.slice (some ⟨g', 0, none⟩) tk.length cap').ownBlock ≠ some b := by
                  rcases hSl with h | h
                  · omega
                  · exact h
                have hJ : k < slN (rdK (wordAt ws p)) (rdS (wordAt ws p)) := by have := HN.out; omega
                obtain ⟨x1, x2⟩ := slot_inR hrd hJ
                obtain ⟨X, hX⟩ : ∃ X, X = slotX ws p k := ⟨_, rfl⟩
                rw [← hX] at x1 x2
                have hX1 : X + 1 < ws.length := by omega
                obtain ⟨Y, hY⟩ : ∃ Y : Int, Y = fs (rdK (wordAt ws p)) + 2 * (k : Int) := ⟨_, rfl⟩
                have hY0 : 0 ≤ Y := by have := fs_pos (rdK (wordAt ws p)); omega
                have hXY : (p : Int) + Y = (X : Int) := by rw [hX, hY]; unfold slotX; have := fs_pos (rdK (wordAt ws p)); omega
                have yk : wr.cell? ⟨bsl, k, none⟩ = some (.int .i64 Y) := by rw [hrow.cell (i := k) (by omega), hgg k hlt3, hY]
                obtain ⟨t, ht⟩ : ∃ t, t = rvT ws X := ⟨_, rfl⟩
                obtain ⟨m, hm⟩ : ∃ m, m = rvN ws X := ⟨_, rfl⟩
                have HNX : Hid (comeN ws (slotF ws p) (k + 1) td = comeP ws tk t m) := by
                  show comeP ws (comeN ws (slotF ws p) k td) (rvT ws (slotX ws p k)) (rvN ws (slotX ws p k)) = _
                  rw [← htk, ← hX, ← ht, ← hm]
                have hleads : isR t = true → ∃ mm q : Nat, m = (mm : Int) ∧ mm < ws.length ∧ leadsAt ws mm = (q : Int) ∧ q < ws.length := fun hr => by
                  have ho := (HK.out.objs p hpl HOB.out).1 k (by have := HN.out; omega)
                  have ho1 : rvOk ws X = true := by rw [hX]; exact ho.1
                  have ho2 := ho.2.1
                  have hmp : 0 < m := by rw [hm]; exact rv_ref hw ho1 (by rw [← ht]; exact hr)
                  have hl2 := ho2 (by show isR (rvT ws (slotX ws p k)) = true; rw [← hX, ← ht]; exact hr)
                  have hm' : rvN ws (p + (fs (rdK (wordAt ws p)) + 2 * (k : Int)).toNat) = m := by rw [hm, hX]; rfl
                  rw [hm'] at hl2
                  obtain ⟨u1, u2, _⟩ := hl2
                  have hmk := fromOk_ne u2
                  have hmm := HK.out.marks m.toNat (by omega) hmk
                  exact ⟨m.toNat, (leadsAt ws m.toNat).toNat, by omega, by omega, by omega, by omega⟩
                have kr := has_below HK1.out hR.2.2 z1
                have lr := hR.lt
                have lH : w.heap.size < wr.heap.size := by omega
                have hB1r : Below w.heap.size w wr := HB1.out.trans (hR.2.2.mono (Nat.le_of_lt z1))
                have HRD : Hid (∀ (W : World) (x : Int), x = (X : Int) → Below wr.heap.size wr W → Calls Tryz.prog 45 #[.slice aw ws.length cw, .int .i64 x] W fun e w' => e = .returned (.tuple #[.agg #[.int .i64 t, .int .i64 m], .bool (rvOk ws X)]) ∧ Below W.heap.size W w') := fun W x hx hW => by
                  rw [ht, hm]
                  exact l1Read_at _ ws _ X _ hx (HS.out.below (below_next hB1r hW)) hn hw hX1
                have lbs : bsl < wr.heap.size := hrow.lt
                have KP : ∀ V, Below wr.heap.size wr V → (Below wr.heap.size wr V ∧ V.cell? ⟨w.heap.size, 0, none⟩ = some (.slice aw ws.length cw) ∧ V.cell? ⟨g', n, none⟩ = some (.int .i64 (p : Int)) ∧ V.cell? ⟨bsl, k, none⟩ = some (.int .i64 Y)) := fun V hV => ⟨hV, by rw [hV.cell (p := ⟨w.heap.size, 0, none⟩) lH, kr 0]; rfl, by rw [hV.cell (p := ⟨g', n, none⟩) hg2']; exact hgc', by rw [hV.cell (p := ⟨bsl, k, none⟩) lbs]; exact yk⟩
                have HXw : Hid (IntKind.i64.wrap ((p : Int) + Y) = (X : Int)) := by show IntKind.i64.wrap ((p : Int) + Y) = (X : Int); rw [IntKind.wrap_i64]; omega
                have HXy : Hid ((p : Int) + Y = (X : Int)) := hXY
                have HRk : Hid (Rst w1.heap.size ws.length w1 wr (.slice (some ⟨g', 0, none⟩) tk.length cap') tk) := hR
                have HLk : Hid (SlR w1.heap.size (some ⟨bsl, 0, none⟩) N (rdK (wordAt ws p)) wr (.slice (some ⟨g', 0, none⟩) tk.length cap')) := hSl
                have hnk' : (n : Int) < (tk.length : Int) := by omega
                have hkl' : (tk.length : Int) ≤ (ws.length : Int) := by omega
                clear hR hSl hrow hgg hob hck hl hpk htk hX hY hXY ht hm x1 x2 hB1r hgc' yk
                go_upto_region 21 with fail
                go_cut [11, 12] from 92 to 106 (fun s11 s12 wc => ∃ cV : Nat, s11 = .pointer (some ⟨cV, 0, none⟩) ∧ s12 = .bool (rvOk ws X) ∧ wc.cell? ⟨cV, 0, none⟩ = some (.int .i64 t) ∧ wc.cell? ⟨cV, 1, none⟩ = some (.int .i64 m) ∧ Below wr.heap.size wr wc)
                case first =>
                  clear kr
                  go_region_held3 (fun V => (Below wr.heap.size wr V ∧ V.cell? ⟨w.heap.size, 0, none⟩ = some (.slice aw ws.length cw) ∧ V.cell? ⟨g', n, none⟩ = some (.int .i64 (p : Int)) ∧ V.cell? ⟨bsl, k, none⟩ = some (.int .i64 Y))) (first | exact KP _ (by assumption) | exact KP _ (Below.refl _ _) | exact KP _ (Below.refl _ _).drew | exact KP _ (alloc_own (And.left (by assumption)) _) | (refine KP _ ?_; repeat (first | assumption | exact And.left (by assumption) | refine Below.setCell ?_ (by first | exact Nat.le_refl _ | (simp; done) | (simp; omega)) _ | refine alloc_own ?_ _))) (first | (go_at_call 45; refine (HRD.out _ _ (by first | exact HXw.out | exact HXy.out) (And.left (by assumption))).mono ?_; rintro e w' ⟨rfl, hb⟩; have hB3 := below_next (w := wr) (And.left (by assumption)) hb; have hz3 := hB3.size; obtain ⟨hc, hf⟩ := bcell hb; have hz := hb.size; simp at hz; clear hb))
                  · go_wp2_with fail
                    go_meet
                    exact ⟨_, rfl, rfl, by simp [go_sem], by simp [go_sem], alloc_own hB3 _⟩
                  · go_wp2_with fail
                    go_meet
                    have p0 : (w'.cell? ⟨wr.heap.size, 0, none⟩).isSome = true := by rw [hc _ _ (by simp)]; simp [go_sem]
                    have p1 : (w'.cell? ⟨wr.heap.size, 1, none⟩).isSome = true := by rw [hc _ _ (by simp)]; simp [go_sem]
                    exact ⟨_, rfl, rfl, by simp [go_sem, p0, p1], by simp [go_sem, p0, p1], (hB3.setCell (p := ⟨wr.heap.size, 0, none⟩) (Nat.le_refl _) _).setCell (p := ⟨wr.heap.size, 1, none⟩) (Nat.le_refl _) _⟩
                case rest =>
                  obtain ⟨cV, rfl, rfl, cv0, cv1, hBc⟩ := hcut
                  have lcV : cV < wc.heap.size := World.block_lt_of_cell? _ ⟨cV, 0, none⟩ cv0
                  have kc := has_below kr hBc lH
                  have lHc : w.heap.size < wc.heap.size := Nat.lt_of_lt_of_le lH hBc.size
                  have lsc : w1.heap.size < wc.heap.size := Nat.lt_of_lt_of_le lr hBc.size
                  have HRc : Hid (Rst w1.heap.size ws.length w1 wc (.slice (some ⟨g', 0, none⟩) tk.length cap') tk) := HRk.out.below hBc
                  have HLc : Hid (SlR w1.heap.size (some ⟨bsl, 0, none⟩) N (rdK (wordAt ws p)) wc (.slice (some ⟨g', 0, none⟩) tk.length cap')) := HLk.out.below hBc
                  clear KP kr HRk HLk hBc HRD HXw HXy
                  cases hr : isR t with
                  | false =>
                    have HRF : Hid (isR t = false) := hr
                    have HE : Hid (comeP ws tk t m = tk) := comeP_no hr
                    clear hleads hr
                    go_wp2_with (go_at_call 42; refine (specIsRef_any _ _ _).mono ?_; rw [HRF.out]; rintro e w4 ⟨rfl, b4⟩; obtain ⟨hc4, hf4⟩ := bcell b4; have z4 := b4.size; have ls4 : w1.heap.size < w4.heap.size := Nat.lt_of_lt_of_le lsc z4; have lH4 : w.heap.size < w4.heap.size := Nat.lt_of_lt_of_le lHc z4; have lV4 : cV < w4.heap.size := Nat.lt_of_lt_of_le lcV z4; have Rn4 : Hid (Rst w1.heap.size ws.length w1 w4 (.slice (some ⟨g', 0, none⟩) tk.length cap') tk) := HRc.out.below b4; have Sl4 : Hid (SlR w1.heap.size (some ⟨bsl, 0, none⟩) N (rdK (wordAt ws p)) w4 (.slice (some ⟨g', 0, none⟩) tk.length cap')) := HLc.out.below b4; clear b4)
                    go_roundw
                    case rel => exact ⟨k + 1, by omega, by go_num, by rw [HNX.out, HE.out]; exact Rn4.out, Sl4.out⟩
                    case measure => simp [intOf]; omega
                  | true =>
                    have HRF : Hid (isR t = true) := hr
                    obtain ⟨mm, q, rfl, hmw, hql, hqw⟩ := hleads hr
                    have HQL : Hid (leadsAt ws mm = (q : Int)) := hql
                    have hqq : (leadsAt ws (mm : Int).toNat).toNat = q := by rw [Int.toNat_natCast, hql, Int.toNat_natCast]
                    have hqw' : (q : Int) < (ws.length : Int) := by omega
                    by_cases hm : q ∈ tk
                    · have HE : Hid (comeP ws tk t (mm : Int) = tk) := comeP_in hqq hm
                      have xs : wc.cell? ⟨w1.heap.size, q, none⟩ = some (.bool true) := by rw [HRc.out.2.1.cell (by omega)]; simp [hm]
                      clear hleads hr hm hqq hql
                      go_wp2_with (first | (go_at_call 42; refine (specIsRef_any _ _ _).mono ?_; rw [HRF.out]; rintro e w4 ⟨rfl, b4⟩; obtain ⟨hc4, hf4⟩ := bcell b4; have z4 := b4.size; have ls4 : w1.heap.size < w4.heap.size := Nat.lt_of_lt_of_le lsc z4; have lH4 : w.heap.size < w4.heap.size := Nat.lt_of_lt_of_le lHc z4; have lV4 : cV < w4.heap.size := Nat.lt_of_lt_of_le lcV z4; have Rn4 : Hid (Rst w1.heap.size ws.length w1 w4 (.slice (some ⟨g', 0, none⟩) tk.length cap') tk) := HRc.out.below b4; have Sl4 : Hid (SlR w1.heap.size (some ⟨bsl, 0, none⟩) N (rdK (wordAt ws p)) w4 (.slice (some ⟨g', 0, none⟩) tk.length cap')) := HLc.out.below b4; clear b4) | (go_at_call 46; refine (l2Where_at _ _ _ _ _ _ _ _ _ _ _ _ _ _ _ mm _ rfl (HS.out.below (HB1.out.trans (Rn4.out.2.2.mono (Nat.le_of_lt z1)))) hn hw hmw).mono ?_; rw [HQL.out]; rintro e w5 ⟨rfl, b5⟩; obtain ⟨hc5, hf5⟩ := bcell b5; have z5 := b5.size; have ls5 : w1.heap.size < w5.heap.size := Nat.lt_of_lt_of_le ls4 z5; have Rn5 : Hid (Rst w1.heap.size ws.length w1 w5 (.slice (some ⟨g', 0, none⟩) tk.length cap') tk) := Rn4.out.below b5; have Sl5 : Hid (SlR w1.heap.size (some ⟨bsl, 0, none⟩) N (rdK (wordAt ws p)) w5 (.slice (some ⟨g', 0, none⟩) tk.length cap')) := Sl4.out.below b5; clear b5))
                      go_roundw
                      case rel => exact ⟨k + 1, by omega, by go_num, by rw [HNX.out, HE.out]; exact Rn5.out, Sl5.out⟩
                      case measure => simp [intOf]; omega
                    · have HE : Hid (comeP ws tk t (mm : Int) = tk ++ [q]) := comeP_new hr hqq hm
                      have HM : Hid (q ∉ tk) := hm
                      have xs : wc.cell? ⟨w1.heap.size, q, none⟩ = some (.bool false) := by rw [HRc.out.2.1.cell (by omega)]; simp [hm]
                      have fz := HRc.out.2.1.frozen
                      clear hleads hr hm hqq hql
                      go_wp2_with (first | (go_at_call 42; refine (specIsRef_any _ _ _).mono ?_; rw [HRF.out]; rintro e w4 ⟨rfl, b4⟩; obtain ⟨hc4, hf4⟩ := bcell b4; have z4 := b4.size; have ls4 : w1.heap.size < w4.heap.size := Nat.lt_of_lt_of_le lsc z4; have lH4 : w.heap.size < w4.heap.size := Nat.lt_of_lt_of_le lHc z4; have lV4 : cV < w4.heap.size := Nat.lt_of_lt_of_le lcV z4; have Rn4 : Hid (Rst w1.heap.size ws.length w1 w4 (.slice (some ⟨g', 0, none⟩) tk.length cap') tk) := HRc.out.below b4; have Sl4 : Hid (SlR w1.heap.size (some ⟨bsl, 0, none⟩) N (rdK (wordAt ws p)) w4 (.slice (some ⟨g', 0, none⟩) tk.length cap')) := HLc.out.below b4; clear b4) | (go_at_call 46; refine (l2Where_at _ _ _ _ _ _ _ _ _ _ _ _ _ _ _ mm _ rfl (HS.out.below (HB1.out.trans (Rn4.out.2.2.mono (Nat.le_of_lt z1)))) hn hw hmw).mono ?_; rw [HQL.out]; rintro e w5 ⟨rfl, b5⟩; obtain ⟨hc5, hf5⟩ := bcell b5; have z5 := b5.size; have ls5 : w1.heap.size < w5.heap.size := Nat.lt_of_lt_of_le ls4 z5; have Rn5 : Hid (Rst w1.heap.size ws.length w1 w5 (.slice (some ⟨g', 0, none⟩) tk.length cap') tk) := Rn4.out.below b5; have Sl5 : Hid (SlR w1.heap.size (some ⟨bsl, 0, none⟩) N (rdK (wordAt ws p)) w5 (.slice (some ⟨g', 0, none⟩) tk.length cap')) := Sl4.out.below b5; clear b5) | (at_builtin; refine wpList_append_own_at _ rfl _ _ 64 rfl (w1.heap.size + 1) 3 i0 (.int .i64 0) 1 8 Tryz.underlying64 hi hz0 hz1 hz2 rfl (by decide) _ tk.length (cellsI tk) rfl ((Rn5.out.marked _ _).alloc _) ⟨_, 0, none⟩ 1 1 [.int .i64 (q : Int)] rfl rfl (fun j u hj => by have h9 := cell_one_new (w5.setCell ⟨w1.heap.size, q, none⟩ (.bool true)) (.int .i64 (q : Int)) 3 j u hj; simpa using h9) (ints_oneCell .i64 [(q : Int)]) (by unfold maxLen; omega) (by omega) (by simp; omega) ?_))
                      intro v' w6 hown hgrow _ hloc
                      have R6 := Rn5.out.put hqw HM.out hown hgrow
                      have S6 := Sl5.out.put hgrow (by simpa using hloc)
                      clear hown hgrow hloc
                      go_wp2
                      go_roundw
                      case rel => exact ⟨k + 1, by omega, by go_num, by rw [HNX.out, HE.out]; exact R6, S6⟩
                      case measure => simp [intOf]; omega
              · have hge3 : (N : Int) ≤ (k : Int) := by omega
                have hkN : k = N := by omega
                have HGO : Hid (Bfs ws (n + 1) tk R) := by
                  have := HBF.out.step hlt hll
                  rw [← HPD.out] at this
                  have e : tk = goneOver ws p td := by rw [htk, hkN, HN.out]; rfl
                  rw [e]
                  exact this
                have HCK : Hid (Come mk tk) := by show Come mk tk; rw [htk]; exact comeN_good k HCO.out (fun j hj => known_slots HK.out HOB.out hpl j (by have := HN.out; omega))
                obtain ⟨l, hl⟩ := comeN_pre ws (slotF ws p) k td
                rw [← htk] at hl
                have HSU : Hid (sm + rdS (wordAt ws p) + 1 = sumW ws (tk.take (n + 1))) := by show _ = _; rw [HSM.out, hl, List.take_append_of_le_length (by omega)]
                have HLE : Hid (n + 1 ≤ tk.length) := by show _ ≤ _; rw [hl, List.length_append]; omega
                have HRk : Hid (Rst w1.heap.size ws.length w1 wr _ tk) := hR
                clear htk hl hSl hkN hR
                go_wp2
                go_roundw
                case rel => exact ⟨n + 1, tk, HLE.out, by go_num, by rw [HSU.out], HCK.out, HGO.out, HRk.out⟩
                case measure => simp [intOf]; omega
        · have hge : (td.length : Int) ≤ (n : Int) := by omega
          obtain ⟨ta, tc, rfl⟩ := hR.head
          have hRR : R = td := hbfs.done hlt
          have HSU : Hid (sumW ws (td.take n) = sumW ws R) := by show _ = _; rw [hRR, List.take_of_length_le (by omega)]
          have HBF : Hid (Below w.heap.size w wr) := HB1.out.trans (hR.2.2.mono (Nat.le_of_lt z1))
          clear hRR hR hbfs hcome
          go_wp2
          go_ret
          exact ⟨ret_int HSU.out, HBF.out⟩
end Go.Proofs.YtmckcnmlhgpnhaaGreat

/- The model's l15Reach. -/
namespace Go.Proofs.YtmckcnmlhgpnhaaGreat
set_option maxRecDepth 20000
open Go.RowKit Go.Maps
set_option linter.unusedSimpArgs false
set_option linter.unusedVariables false

/-- An operation of a drawn region is taken: wanted, or not. -/
theorem tkK {P : Program} {md : Region.Mode} {ops : Array Oper} {Q : Exit → Act → World → Prop} {S : World → Prop} {fuel : Nat} {listed : Array Bool} {a : Act} {w : World} {o : Op} {ty : TypeId} {ps : String} {af : Array Edge} {gd : Option (Nat × Bool)} (i d : Nat) (v : Value) (hS : S w) (hi : ops[i]? = some { dst := some d, op := o, type := ty, pos := ps, after := af, guard := gd })
    (h : wpAnyH P md ops Q S fuel (listed.setIfInBounds i true) (a.put (some d) v) w)
    (hv : ∀ w, S w → (execOp a.eval { dst := some d, op := o, type := ty, pos := ps, after := af, guard := gd }).run P w = .ok (.value v) w := by intro w hSw; (try dsimp only at hSw); go_simp)
    (hw : Region.wanted { dst := some d, op := o, type := ty, pos := ps, after := af, guard := gd } (yielded ops a.tmps) = true := by kernel_rfl)
    (hs : Region.noSelect ops = true := by kernel_rfl) (hf : Region.free md ops listed i = true := by kernel_rfl) (hr : (Region.ready md ops listed).contains i = true := by kernel_rfl)
    (hQ : ∀ c a w, Q (.panic c) (a.put (some d) v) w → Q (.panic c) a w := by exact fun _ _ _ h => h) : wpAnyH P md ops Q S (fuel + 1) listed a w :=
  wpAnyH_take hi hs hf hr hQ (Or.inl ⟨hw, hv⟩) hS h
theorem cell_three_new (w : World) (a b c : Value) (t : TypeId) : ∀ j u, [a, b, c][j]? = some u → (w.alloc (.cells #[a, b, c] t)).cell? ((⟨w.heap.size, 0, none⟩ : Addr).add j) = some u := fun j u hj => by
  rw [Addr.add_lit, Nat.zero_add]
  simp [go_sem]
  exact hj
theorem owns_mono {w : World} {B C es : Nat} {t : TypeId} {v : Value} {n : Nat} {xs : List Value} (h : w.ownsRow B t es v n xs) (hC : C ≤ B) : w.ownsRow C t es v n xs := by
  obtain ⟨h1, h2⟩ := h
  refine ⟨h1, ?_⟩
  rcases h2 with h2 | ⟨g, cap, cur, hv, hg, r⟩
  · exact .inl h2
  · exact .inr ⟨g, cap, cur, hv, Nat.le_trans hC hg, r⟩
set_option maxHeartbeats 8000000 in
theorem l15Reach_at (aw : Option Addr) (cw : Nat) (ws : List Int) (semi toh top : Int) (cyc : Bool) (scan old copied serial : Int) (ar : Option Addr) (cr : Nat) (rs : List (Int × Int)) (y : Nat → Int) (Tr : Nat) (w : World) (avr : Option Addr) (cvr : Nat) (rr : List Nat) (hs : Sl w (.slice aw ws.length cw) ws) (hn : ws.length ≤ 1048576) (hw : Words64 ws) (hrt : SlF Tr w (.slice ar rs.length cr) rs.length (2 * rs.length) (fun i => .int .i64 (y i))) (hok : ArOk ws semi toh top cyc scan old copied serial y rs.length) (hrr : ∀ k, k < rr.length → rr.getD k 0 < rs.length) (hrrl : rr.length ≤ 24) (hrow : SlF w.heap.size w (.slice avr rr.length cvr) rr.length rr.length (fun i => .int .i64 ((rr.getD i 0 : Nat) : Int))) (mk : Nat → Int) (R : List (Nat × Int × Int)) (hK : Known mk ws cyc scan) (hB : BfsS ws 0 (reachN ws (fun k => rootF y (rr.getD k 0)) (-1) (fun k => ((rr.getD k 0 : Nat) : Int)) rr.length []) R) (hC : Come mk (plS (reachN ws (fun k => rootF y (rr.getD k 0)) (-1) (fun k => ((rr.getD k 0 : Nat) : Int)) rr.length []))) :
    Calls Tryz.prog 83 #[.agg #[.slice aw ws.length cw, .int .i64 semi, .int .i64 toh, .int .i64 top, .bool cyc, .int .i64 scan, .int .i64 old, .int .i64 copied, .int .i64 serial, .slice ar rs.length cr], .slice avr rr.length cvr] w fun e w' => ∃ v', e = .returned v' ∧ w'.ownsRow w.heap.size 117 3 v' R.length (c3 R) ∧ Below w.heap.size w w' := by
  obtain ⟨i0, hi, hz0, hz1', hz2⟩ := info_parts infoSt
  have HRT : Hid (∀ k, k < rs.length → isR (y (2 * k)) = true → ∃ p : Nat, y (2 * k + 1) = (p : Int) ∧ p < ws.length ∧ (leadsAt ws (y (2 * k + 1)).toNat).toNat = p) := fun k hk hr => by
    obtain ⟨p, h1, _, _, h4, h5, _⟩ := ar_root hw hok hk hr
    exact ⟨p, h1, by omega, by rw [h1, Int.toNat_natCast, h5, Int.toNat_natCast]⟩
  have HCN : Hid (∀ k, (reachN ws (fun k => rootF y (rr.getD k 0)) (-1) (fun k => ((rr.getD k 0 : Nat) : Int)) k []).length ≤ k) := by
    intro k
    induction k with
    | zero => simp [reachN]
    | succ k ih =>
      exact Nat.le_trans (reachP_len ..) (Nat.succ_le_succ ih)
  have HS : Hid (Sl w (.slice aw ws.length cw) ws) := hs
  have HR : Hid (SlF w.heap.size w (.slice ar rs.length cr) rs.length (2 * rs.length) (fun i => .int .i64 (y i))) := hrt.here
  have HV : Hid (SlF w.heap.size w (.slice avr rr.length cvr) rr.length rr.length (fun i => .int .i64 ((rr.getD i 0 : Nat) : Int))) := hrow
  have HRR : Hid (∀ k, k < rr.length → rr.getD k 0 < rs.length) := hrr
  have HK : Hid (Known mk ws cyc scan) := hK
  have HB : Hid (BfsS ws 0 (reachN ws (fun k => rootF y (rr.getD k 0)) (-1) (fun k => ((rr.getD k 0 : Nat) : Int)) rr.length []) R) := hB
  have HC : Hid (Come mk (plS (reachN ws (fun k => rootF y (rr.getD k 0)) (-1) (fun k => ((rr.getD k 0 : Nat) : Int)) rr.length []))) := hC
  have hrl : rs.length ≤ 24 := by obtain ⟨_, _, _, _, _, h, _⟩ := num_facts hok.1; exact h
  have hn' : (ws.length : Int) ≤ 1048576 := by omega
  have hrl' : (rs.length : Int) ≤ 24 := by omega
  have hrrl' : (rr.length : Int) ≤ 24 := by omega
  have hm1 := makeBools (ws.length : Int) (by omega) (by omega)
  rw [Int.toNat_natCast] at hm1
  clear hs hrt hok hK hB hC hrow hrr
  obtain ⟨w1, hw1⟩ : ∃ V, V = w.alloc (.cells #[.slice aw ws.length cw, .int .i64 semi, .int .i64 toh, .int .i64 top, .bool cyc, .int .i64 scan, .int .i64 old, .int .i64 copied, .int .i64 serial, .slice ar rs.length cr] 30) := ⟨_, rfl⟩
  have B1 : Below w.heap.size w w1 := by rw [hw1]; exact (Below.refl _ _).alloc (Nat.le_refl _) _
  have k1 : ∀ i, w1.cell? ⟨w.heap.size, i, none⟩ = (#[.slice aw ws.length cw, .int .i64 semi, .int .i64 toh, .int .i64 top, .bool cyc, .int .i64 scan, .int .i64 old, .int .i64 copied, .int .i64 serial, .slice ar rs.length cr] : Array Value)[i]? := fun i => by rw [hw1]; simp [go_sem]
  have z1 : w.heap.size < w1.heap.size := by rw [hw1]; simp
  go_enter Tryz.func83, Tryz.ntmps83
  go_upto_region 1 with fail
  rw [← hw1]
  clear hw1
  have k0 := k1 0
  go_upto_region 3 with fail
  clear hm1 k0
  obtain ⟨w2, hw2⟩ : ∃ V, V = (w1.alloc (.cells (madeCells #[.bool false] ws.length) 4)).alloc (.cells #[] 117) := ⟨_, rfl⟩
  rw [← hw2]
  have ST : RstS w1.heap.size ws.length w1 w2 (.slice (some ⟨w1.heap.size + 1, 0, none⟩) 0 0) [] := by
    rw [hw2]
    refine ⟨⟨rfl, .inr ⟨w1.heap.size + 1, 0, #[], rfl, Nat.le_refl _, alloc_at (by simp), Nat.le_refl _, by simp [maxLen], rfl, rfl⟩⟩, ?_, ((Below.refl _ _).alloc (Nat.le_refl _) _).alloc (by simp) _⟩
    exact ((World.rowIs_made w1 (.bool false) ws.length 4).of_block (((Below.refl _ _).alloc (Nat.le_refl _) _).block _ (by simp))).congr fun i _ => by simp [plS]
  have HST : Hid (RstS w1.heap.size ws.length w1 w2 (.slice (some ⟨w1.heap.size + 1, 0, none⟩) 0 0) []) := ST
  have HB1 : Hid (Below w.heap.size w w1) := B1
  have HK1 : Hid (∀ i, w1.cell? ⟨w.heap.size, i, none⟩ = (#[.slice aw ws.length cw, .int .i64 semi, .int .i64 toh, .int .i64 top, .bool cyc, .int .i64 scan, .int .i64 old, .int .i64 copied, .int .i64 serial, .slice ar rs.length cr] : Array Value)[i]?) := k1
  clear hw2 ST B1 k1
  go_wp2_with fail
  go_loopw [6, 7] (fun v i wr => ∃ k : Nat, k ≤ rr.length ∧ i = .int .i64 k ∧ RstS w1.heap.size ws.length w1 wr v (reachN ws (fun k => rootF y (rr.getD k 0)) (-1) (fun k => ((rr.getD k 0 : Nat) : Int)) k [])) (fun _ i _ => rr.length - (intOf i).toNat)
  case atStart => exact ⟨0, Nat.zero_le _, rfl, HST.out⟩
  case round =>
    obtain ⟨k, hk, rfl, hR⟩ := hrel
    obtain ⟨td, htd⟩ : ∃ td, td = reachN ws (fun k => rootF y (rr.getD k 0)) (-1) (fun k => ((rr.getD k 0 : Nat) : Int)) k [] := ⟨_, rfl⟩
    have hcl := HCN.out k
    rw [← htd] at hR hcl
    obtain ⟨ta, tc, rfl⟩ := hR.head
    have kr := has_below HK1.out hR.2.2 z1
    have lr := hR.lt
    have lH : w.heap.size < wr.heap.size := by omega
    have hB1r : Below w.heap.size w wr := HB1.out.trans (hR.2.2.mono (Nat.le_of_lt z1))
    by_cases hlt : k < rr.length
    · have hlt' : (k : Int) < (rr.length : Int) := by omega
      obtain ⟨r, hr⟩ : ∃ r, r = rr.getD k 0 := ⟨_, rfl⟩
      have hrs : r < rs.length := by rw [hr]; exact HRR.out k hlt
      have hrs' : (r : Int) < (rs.length : Int) := by omega
      obtain ⟨br, offr, cap', hv, _, lbr, hcr⟩ := HR.out.parts (k := 0) (by omega)
      simp only [Value.slice.injEq] at hv
      obtain ⟨rfl, _, rfl⟩ := hv
      obtain ⟨bv, ov, capv, hv, _, lbv, hcv⟩ := HV.out.parts (k := 0) (by omega)
      simp only [Value.slice.injEq] at hv
      obtain ⟨rfl, _, rfl⟩ := hv
      obtain ⟨t, ht⟩ : ∃ t, t = y (2 * r) := ⟨_, rfl⟩
      obtain ⟨m, hm⟩ : ∃ m, m = y (2 * r + 1) := ⟨_, rfl⟩
      have y0 : wr.cell? ⟨bv, ov + k, none⟩ = some (.int .i64 (r : Int)) := by rw [hB1r.cell (p := ⟨bv, ov + k, none⟩) lbv, hr]; exact hcv k hlt
      have x0 : wr.cell? ⟨br, offr + r * 2, none⟩ = some (.int .i64 t) := by rw [hB1r.cell (p := ⟨br, offr + r * 2, none⟩) lbr, ht, Nat.mul_comm]; exact hcr (2 * r) (by omega)
      have x1 : wr.cell? ⟨br, offr + r * 2 + 1, none⟩ = some (.int .i64 m) := by rw [hB1r.cell (p := ⟨br, offr + r * 2 + 1, none⟩) lbr, hm, Nat.mul_comm]; exact hcr (2 * r + 1) (by omega)
      have lbr2 : br < wr.heap.size := Nat.lt_of_lt_of_le lbr hB1r.size
      have lbv2 : bv < wr.heap.size := Nat.lt_of_lt_of_le lbv hB1r.size
      have hrt := HRT.out r hrs
      rw [← ht, ← hm] at hrt
      have hnext : reachN ws (fun k => rootF y (rr.getD k 0)) (-1) (fun k => ((rr.getD k 0 : Nat) : Int)) (k + 1) [] = reachP ws td t m (-1) (r : Int) := by rw [htd, ht, hm, hr]; rfl
      have HN : Hid (reachN ws (fun k => rootF y (rr.getD k 0)) (-1) (fun k => ((rr.getD k 0 : Nat) : Int)) (k + 1) [] = reachP ws td t m (-1) (r : Int)) := hnext
      have HRr : Hid (RstS w1.heap.size ws.length w1 wr (.slice ta td.length tc) td) := hR
      clear hnext htd hcr hcv ht hm hB1r hr hR
      go_upto_region 6 with fail
      go_cut [8] from 27 to 34 (fun s8 wc => ∃ cV : Nat, s8 = .pointer (some ⟨cV, 0, none⟩) ∧ wr.heap.size ≤ cV ∧ cV < wc.heap.size ∧ wc.cell? ⟨cV, 0, none⟩ = some (.int .i64 t) ∧ wc.cell? ⟨cV, 1, none⟩ = some (.int .i64 m) ∧ Below wr.heap.size wr wc)
      case first =>
        go_region
        all_goals
          go_wp2_with fail
          go_meet
          exact ⟨_, rfl, Nat.le_refl _, by simp, by simp [go_sem], by simp [go_sem], (Below.alloc (Below.refl _ _) (Nat.le_refl _) _).drew⟩
      case rest =>
        obtain ⟨cV, rfl, gV, lV, cv0, cv1, hBc⟩ := hcut
        have HRc : Hid (RstS w1.heap.size ws.length w1 wc (.slice ta td.length tc) td) := HRr.out.below hBc
        have lsc : w1.heap.size < wc.heap.size := Nat.lt_of_lt_of_le lr hBc.size
        have yc : wc.cell? ⟨bv, ov + k, none⟩ = some (.int .i64 (r : Int)) := by rw [hBc.cell (p := ⟨bv, ov + k, none⟩) lbv2]; exact y0
        have lbc : bv < wc.heap.size := Nat.lt_of_lt_of_le lbv2 hBc.size
        have HOL : Hid (∀ g, (Value.slice ta td.length tc).ownBlock = some g → w1.heap.size + 1 ≤ g ∧ g < wr.heap.size) := World.ownsRow.lt HRr.out.1
        clear kr HRr hBc x0 x1 y0
        cases hr : isR t with
        | false =>
          have HRF : Hid (isR t = false) := hr
          have HE : Hid (reachP ws td t m (-1) (r : Int) = td) := reachP_no hr
          clear hrt hr
          go_wp2_with (go_at_call 42; refine (specIsRef_any _ _ _).mono ?_; rw [HRF.out]; rintro e w4 ⟨rfl, b4⟩; obtain ⟨hc4, hf4⟩ := bcell b4; have z4 := b4.size; have Rn4 : Hid (RstS w1.heap.size ws.length w1 w4 (.slice ta td.length tc) td) := HRc.out.below b4; have ls4 : w1.heap.size < w4.heap.size := Nat.lt_of_lt_of_le lsc z4; have lV4 : cV < w4.heap.size := Nat.lt_of_lt_of_le lV z4; clear b4)
          go_roundw
          case rel => exact ⟨k + 1, by omega, by go_num, by rw [HN.out, HE.out]; exact Rn4.out⟩
          case measure => simp [intOf]; omega
        | true =>
          have HRF : Hid (isR t = true) := hr
          obtain ⟨p, hp, hpl, hq⟩ := hrt hr
          subst hp
          have hpl' : (p : Int) < (ws.length : Int) := by omega
          by_cases hm : p ∈ plS td
          · have HE : Hid (reachP ws td t (p : Int) (-1) (r : Int) = td) := reachP_in hq hm
            have xs : wc.cell? ⟨w1.heap.size, p, none⟩ = some (.bool true) := by rw [HRc.out.2.1.cell (by omega)]; simp [hm]
            clear hrt hr hm hq
            go_wp2_with (go_at_call 42; refine (specIsRef_any _ _ _).mono ?_; rw [HRF.out]; rintro e w4 ⟨rfl, b4⟩; obtain ⟨hc4, hf4⟩ := bcell b4; have z4 := b4.size; have Rn4 : Hid (RstS w1.heap.size ws.length w1 w4 (.slice ta td.length tc) td) := HRc.out.below b4; have ls4 : w1.heap.size < w4.heap.size := Nat.lt_of_lt_of_le lsc z4; have lV4 : cV < w4.heap.size := Nat.lt_of_lt_of_le lV z4; clear b4)
            go_roundw
            case rel => exact ⟨k + 1, by omega, by go_num, by rw [HN.out, HE.out]; exact Rn4.out⟩
            case measure => simp [intOf]; omega
          · have HE : Hid (reachP ws td t (p : Int) (-1) (r : Int) = td ++ [(p, -1, (r : Int))]) := reachP_new hr hq hm
            have HM : Hid (p ∉ plS td) := hm
            have xs : wc.cell? ⟨w1.heap.size, p, none⟩ = some (.bool false) := by rw [HRc.out.2.1.cell (by omega)]; simp [hm]
            have fz := HRc.out.2.1.frozen
            have tl : td.length + 1 ≤ 25 := by omega
            have nV : cV ≠ w1.heap.size := by omega
            have nb : bv ≠ w1.heap.size := by have := HB1.out.size; omega
            clear hrt hr hm hq hcl
            go_upto_region 9 with (go_at_call 42; refine (specIsRef_any _ _ _).mono ?_; rw [HRF.out]; rintro e w4 ⟨rfl, b4⟩; obtain ⟨hc4, hf4⟩ := bcell b4; have z4 := b4.size; have Rn4 : Hid (RstS w1.heap.size ws.length w1 w4 (.slice ta td.length tc) td) := HRc.out.below b4; have ls4 : w1.heap.size < w4.heap.size := Nat.lt_of_lt_of_le lsc z4; have lV4 : cV < w4.heap.size := Nat.lt_of_lt_of_le lV z4)
            obtain ⟨w8, hw8⟩ : ∃ V, V = w4.setCell ⟨w1.heap.size, p, none⟩ (.bool true) := ⟨_, rfl⟩
            rw [← hw8]
            have own8 : w8.ownsRow (w1.heap.size + 1) 117 3 (.slice ta td.length tc) td.length (c3 td) := by rw [hw8]; exact Rn4.out.marked _ _
            have p8 : w8.cell? ⟨cV, 1, none⟩ = some (.int .i64 (p : Int)) := by rw [hw8, World.cell?_setCell_other _ _ _ _ (fun e => nV (congrArg Addr.block e).symm), hc4 _ _ lV]; exact cv1
            have y8 : w8.cell? ⟨bv, ov + k, none⟩ = some (.int .i64 (r : Int)) := by rw [hw8, World.cell?_setCell_other _ _ _ _ (fun e => nb (congrArg Addr.block e).symm), hc4 _ _ lbc]; exact yc
            have HZ8 : Hid (w8.heap.size = w4.heap.size) := by show _ = _; rw [hw8]; simp
            have lV8 : cV < w8.heap.size := by have := HZ8.out; omega
            have lb8 : bv < w8.heap.size := by have := HZ8.out; omega
            have ls8 : w1.heap.size + 1 ≤ w8.heap.size := by have := HZ8.out; omega
            have HW8 : Hid (w8 = w4.setCell ⟨w1.heap.size, p, none⟩ (.bool true)) := hw8
            clear hc4 hf4 cv0 cv1 yc xs fz hw8
            have bd8 : Below w8.heap.size w8 w8.drew := (Below.refl _ _).drew
            have KS : ∀ V : World, V.heap[cV]? = w8.heap[cV]? → V.heap[bv]? = w8.heap[bv]? → (V.cell? ⟨cV, 1, none⟩ = some (.int .i64 (p : Int)) ∧ V.cell? ⟨bv, ov + k, none⟩ = some (.int .i64 (r : Int))) := fun V h1 h2 => ⟨by rw [World.cell?_of_block (w := w8) (a := ⟨cV, 1, none⟩) h1]; exact p8, by rw [World.cell?_of_block (w := w8) (a := ⟨bv, ov + k, none⟩) h2]; exact y8⟩
            refine wp_region_held_drew (S := fun V => V.cell? ⟨cV, 1, none⟩ = some (.int .i64 (p : Int)) ∧ V.cell? ⟨bv, ov + k, none⟩ = some (.int .i64 (r : Int))) (by kernel_rfl) ⟨p8, y8⟩ (fun hHeld => ?_)
            refine tkK 0 49 (.slice ta td.length tc) hHeld rfl ?_
            try simp only [Act.put, List.setIfInBounds_toArray, List.set_cons_zero, List.set_cons_succ]
            refine tkK 1 50 (.pointer (some ⟨cV, 1, none⟩)) hHeld rfl ?_
            try simp only [Act.put, List.setIfInBounds_toArray, List.set_cons_zero, List.set_cons_succ]
            refine tkK 2 51 (.int .i64 (p : Int)) hHeld rfl ?_ (by intro V hSw; have q := hSw.1; go_simp)
            try simp only [Act.put, List.setIfInBounds_toArray, List.set_cons_zero, List.set_cons_succ]
            refine tkK 3 52 (.slice (some ⟨bv, ov, none⟩) rr.length cvr) hHeld rfl ?_
            try simp only [Act.put, List.setIfInBounds_toArray, List.set_cons_zero, List.set_cons_succ]
            refine tkK 4 53 (.int .i64 (k : Int)) hHeld rfl ?_
            try simp only [Act.put, List.setIfInBounds_toArray, List.set_cons_zero, List.set_cons_succ]
            refine tkK 5 54 (.pointer (some ⟨bv, ov + k, none⟩)) hHeld rfl ?_
            try simp only [Act.put, List.setIfInBounds_toArray, List.set_cons_zero, List.set_cons_succ]
            refine tkK 6 55 (.int .i64 (r : Int)) hHeld rfl ?_ (by intro V hSw; have q := hSw.2; go_simp)
            try simp only [Act.put, List.setIfInBounds_toArray, List.set_cons_zero, List.set_cons_succ]
            refine tkK 7 56 (.agg #[.int .i64 (p : Int), .int .i64 (-1), .int .i64 (r : Int)]) hHeld rfl ?_
            try simp only [Act.put, List.setIfInBounds_toArray, List.set_cons_zero, List.set_cons_succ]
            refine wpAnyH_ready (rs := [8]) (by kernel_rfl) (by simp) ?_
            refine AllReadyH.cons (o := { dst := some 57, op := _, type := _, pos := _, after := _, guard := _ }) rfl (fun KK hKK => ?_) AllReadyH.nil
            go_simp
            obtain ⟨w9, hw9⟩ : ∃ V, V = (w8.alloc (.cells #[.int .i64 (p : Int), .int .i64 (-1), .int .i64 (r : Int)] 117)).drew := ⟨_, rfl⟩
            rw [← hw9]
            have b9 : Below w8.heap.size w8 w9 := by rw [hw9]; exact ((Below.refl _ _).alloc (Nat.le_refl _) _).drew
            have own9 : w9.ownsRow (w1.heap.size + 1) 117 3 (.slice ta td.length tc) td.length (c3 td) := World.ownsRow.kept own8 (row := none) ⟨b9.os, b9.tape, b9.output, b9.size, fun k hk _ => b9.block k hk⟩ (by cases (Value.slice ta td.length tc).ownBlock <;> simp)
            have hN : ∀ j v, ([.int .i64 (p : Int), .int .i64 (-1), .int .i64 (r : Int)] : List Value)[j]? = some v → w9.cell? ((⟨w8.heap.size, 0, none⟩ : Addr).add j) = some v := by rw [hw9]; simpa using cell_three_new w8 (.int .i64 (p : Int)) (.int .i64 (-1)) (.int .i64 (r : Int)) 117
            have s9 := KS w9 (b9.block _ (by omega)) (b9.block _ (by omega))
            clear hHeld
            refine hKK.out _ _ s9 (fun hHeld => ?_)
            clear hKK KK
            try simp only [Act.put, List.setIfInBounds_toArray, List.set_cons_zero, List.set_cons_succ]
            refine wpAnyH_ready (rs := [9]) (by kernel_rfl) (by simp) ?_
            refine AllReadyH.cons (o := { dst := some 58, op := _, type := _, pos := _, after := _, guard := _ }) rfl (fun KK hKK => ?_) AllReadyH.nil
            rw [if_pos (by kernel_rfl)]
            refine wp_append_own _ _ _ 114 rfl (w1.heap.size + 1) 117 i0 (.agg #[.int .i64 0, .int .i64 0, .int .i64 0]) 3 24 Tryz.underlying114 hi hz0 hz1' hz2 rfl (by decide) (.slice ta td.length tc) td.length (c3 td) rfl own9 ⟨w8.heap.size, 0, none⟩ 1 1 [.int .i64 (p : Int), .int .i64 (-1), .int .i64 (r : Int)] rfl rfl hN (ints_oneCell .i64 [(p : Int), -1, (r : Int)]) (by unfold maxLen; omega) (by omega) (by have := b9.size; omega) ?_
            intro v' w10 hown' hgrow hnil
            have hg10 : ((w4.setCell ⟨w1.heap.size, p, none⟩ (.bool true)).alloc (.cells #[.int .i64 (p : Int), .int .i64 (-1), .int .i64 (r : Int)] 117)).grownBy w10 (Value.slice ta td.length tc).ownBlock := by
              rw [hw9] at hgrow
              rw [← HW8.out]
              exact ⟨hgrow.os, hgrow.tape, hgrow.output, hgrow.size, hgrow.block⟩
            have R10 : Hid (RstS w1.heap.size ws.length w1 w10 v' (reachN ws (fun k => rootF y (rr.getD k 0)) (-1) (fun k => ((rr.getD k 0 : Nat) : Int)) (k + 1) [])) := by
              have := Rn4.out.put (fr := -1) (sl := (r : Int)) hpl HM.out hown' hg10
              rw [← HE.out, ← HN.out] at this
              exact this
            have s10 := KS w10 ((hgrow.block cV (by have := b9.size; omega) (fun e => by have := HOL.out cV e.symm; omega)).trans (b9.block _ (by omega))) ((hgrow.block bv (by have := b9.size; omega) (fun e => by have := HOL.out bv e.symm; have := HB1.out.size; omega)).trans (b9.block _ (by omega)))
            clear hown' hgrow hnil hg10 hN own9 own8 s9 hHeld b9
            refine hKK.out _ _ s10 (fun hHeld => ?_)
            clear hKK KK
            try simp only [Act.put, List.setIfInBounds_toArray, List.set_cons_zero, List.set_cons_succ]
            refine tkK 10 6 v' hHeld rfl ?_
            try simp only [Act.put, List.setIfInBounds_toArray, List.set_cons_zero, List.set_cons_succ]
            refine wpAnyH_done (by kernel_rfl) ?_ _
            clear hHeld KS s10 p8 y8 bd8
            go_wp2
            go_roundw
            case rel => exact ⟨k + 1, by omega, by go_num, R10.out⟩
            case measure => simp [intOf]; omega
    · have hge : (rr.length : Int) ≤ (k : Int) := by omega
      have hkk : k = rr.length := by omega
      obtain ⟨t0, ht0⟩ : ∃ t, t = reachN ws (fun k => rootF y (rr.getD k 0)) (-1) (fun k => ((rr.getD k 0 : Nat) : Int)) rr.length [] := ⟨_, rfl⟩
      have htt : td = t0 := by rw [htd, hkk, ht0]
      rw [← ht0] at HB HC
      have HR0 : Hid (RstS w1.heap.size ws.length w1 wr (.slice ta td.length tc) t0) := by rw [← htt]; exact hR
      have hle0 : (Value.slice ta td.length tc) = (Value.slice ta t0.length tc) := by rw [htt]
      rw [hle0] at HR0 ⊢
      clear hkk htd htt ht0 hR HCN HRT hcl hB1r hle0
      go_wp2_with fail
      rename World => wr1
      clear kr
      go_loopw [6, 9] (fun v i wr => ∃ (n : Nat) (td : List (Nat × Int × Int)), n ≤ td.length ∧ i = .int .i64 n ∧ Come mk (plS td) ∧ BfsS ws n td R ∧ RstS w1.heap.size ws.length w1 wr v td) (fun _ i _ => ws.length - (intOf i).toNat)
      case atStart => exact ⟨0, _, Nat.zero_le _, rfl, HC.out, HB.out, HR0.out⟩
      case round =>
        obtain ⟨n, td, hnl, rfl, hcome, hbfs, hR⟩ := hrel
        have hll : td.length ≤ ws.length := by rw [← plS_len]; exact come_length HK.out hcome
        have hll' : (td.length : Int) ≤ (ws.length : Int) := by omega
        by_cases hlt : n < td.length
        · have hlt' : (n : Int) < (td.length : Int) := by omega
          obtain ⟨g, cap, rfl, hg1, hg2, hgc⟩ := hR.item hlt
          obtain ⟨p, hp⟩ : ∃ p, p = (plS td).getD n 0 := ⟨_, rfl⟩
          rw [← hp] at hgc
          have hpm : p ∈ plS td := by rw [hp]; simp [hlt, plS_len]
          have hobj := hcome.2 p hpm
          have hpl := known_lt HK.out hobj
          obtain ⟨hrd, hin⟩ := HK.out.within p hobj
          have kr := has_below HK1.out hR.2.2 z1
          have lr := hR.lt
          have lH : w.heap.size < wr.heap.size := by omega
          have hsb := rdS_bound (wordAt ws p)
          have HBw : Hid (Below w.heap.size w wr) := HB1.out.trans (hR.2.2.mono (Nat.le_of_lt z1))
          have HRr : Hid (RstS w1.heap.size ws.length w1 wr (.slice (some ⟨g, 0, none⟩) td.length cap) td) := hR
          have HCO : Hid (Come mk (plS td)) := hcome
          have HBF : Hid (BfsS ws n td R) := hbfs
          have HPD : Hid (p = (plS td).getD n 0) := hp
          have HOB : Hid (isObj mk p) := hobj
          have KP : ∀ V, Below wr.heap.size wr V → (Below wr.heap.size wr V ∧ (∀ i, V.cell? ⟨w.heap.size, i, none⟩ = (#[.slice aw ws.length cw, .int .i64 semi, .int .i64 toh, .int .i64 top, .bool cyc, .int .i64 scan, .int .i64 old, .int .i64 copied, .int .i64 serial, .slice ar rs.length cr] : Array Value)[i]?) ∧ V.cell? ⟨g, n * 3, none⟩ = some (.int .i64 (p : Int))) := fun V hV => ⟨hV, has_below kr hV lH, by rw [hV.cell (p := ⟨g, n * 3, none⟩) hg2]; exact hgc⟩
          clear hR hcome hbfs hobj hp hpm
          go_upto_region 13 with fail
          go_cut [10] from 65 to 71 (fun s8 wc => ∃ c8 : Nat, s8 = .pointer (some ⟨c8, 0, none⟩) ∧ wc.cell? ⟨c8, 0, none⟩ = some (.int .i64 (rdK (wordAt ws p))) ∧ wc.cell? ⟨c8, 1, none⟩ = some (.int .i64 (rdS (wordAt ws p))) ∧ Below wr.heap.size wr wc)
          case first =>
            clear kr hgc
            go_region_held3 (fun V => (Below wr.heap.size wr V ∧ (∀ i, V.cell? ⟨w.heap.size, i, none⟩ = (#[.slice aw ws.length cw, .int .i64 semi, .int .i64 toh, .int .i64 top, .bool cyc, .int .i64 scan, .int .i64 old, .int .i64 copied, .int .i64 serial, .slice ar rs.length cr] : Array Value)[i]?) ∧ V.cell? ⟨g, n * 3, none⟩ = some (.int .i64 (p : Int)))) (first | exact KP _ (by assumption) | exact KP _ (Below.refl _ _) | exact KP _ (Below.refl _ _).drew | exact KP _ (alloc_own (And.left (by assumption)) _) | (refine KP _ ?_; repeat (first | assumption | exact And.left (by assumption) | refine Below.setCell ?_ (by first | exact Nat.le_refl _ | (simp; done) | (simp; omega)) _ | refine alloc_own ?_ _))) (first | (go_at_call 43; refine (l2Look_at _ _ _ _ _ _ _ _ _ _ _ _ _ _ _ p _ rfl (HS.out.below (below_next HBw.out (And.left (by assumption)))) hn hw hpl).mono ?_; rintro e w' ⟨rfl, hb⟩; have hB3 := below_next (w := wr) (And.left (by assumption)) hb; have hz3 := hB3.size; obtain ⟨hc, hf⟩ := bcell hb; have hz := hb.size; simp at hz; clear hb))
            · go_wp2_with fail
              go_meet
              exact ⟨_, rfl, by simp [go_sem], by simp [go_sem], alloc_own hB3 _⟩
            · go_wp2_with fail
              go_meet
              have p0 : (w'.cell? ⟨wr.heap.size, 0, none⟩).isSome = true := by rw [hc _ _ (by simp)]; simp [go_sem]
              have p1 : (w'.cell? ⟨wr.heap.size, 1, none⟩).isSome = true := by rw [hc _ _ (by simp)]; simp [go_sem]
              have p2 : (w'.cell? ⟨wr.heap.size, 2, none⟩).isSome = true := by rw [hc _ _ (by simp)]; simp [go_sem]
              exact ⟨_, rfl, by simp [go_sem, p0, p1, p2], by simp [go_sem, p0, p1, p2], ((hB3.setCell (p := ⟨wr.heap.size, 0, none⟩) (Nat.le_refl _) _).setCell (p := ⟨wr.heap.size, 1, none⟩) (Nat.le_refl _) _).setCell (p := ⟨wr.heap.size, 2, none⟩) (Nat.le_refl _) _⟩
          case rest =>
            obtain ⟨c8, rfl, cv0, cv1, hBc⟩ := hcut
            have HRc : Hid (RstS w1.heap.size ws.length w1 wc (.slice (some ⟨g, 0, none⟩) td.length cap) td) := HRr.out.below hBc
            have lgc : g < wc.heap.size := Nat.lt_of_lt_of_le hg2 hBc.size
            clear KP kr hgc hBc HRr HBw
            have hsm1 : (0 : Int) ≤ rdS (wordAt ws p) := hsb.1
            go_wp2_with fail
            refine (specSlots_any _ _ _).mono ?_
            rintro e w4 ⟨v4, rfl, o4, b4⟩
            obtain ⟨asl, csl, rfl, hcase⟩ := o4
            obtain ⟨N, hN⟩ : ∃ N, N = slN (rdK (wordAt ws p)) (rdS (wordAt ws p)) := ⟨_, rfl⟩
            rw [← hN] at hcase ⊢
            have hN1 : N ≤ 128 := by rw [hN]; exact slN_le _ _
            have HN : Hid (N = slN (rdK (wordAt ws p)) (rdS (wordAt ws p))) := hN
            have HCASE : Hid (N = 0 ∨ ∃ b M gg, asl = some ⟨b, 0, none⟩ ∧ wc.heap.size ≤ b ∧ b < w4.heap.size ∧ N ≤ M ∧ w4.rowIs b 3 M gg ∧ ∀ i, i < N → gg i = .int .i64 (fs (rdK (wordAt ws p)) + 2 * (i : Int))) := hcase
            have HR4 : Hid (RstS w1.heap.size ws.length w1 w4 (.slice (some ⟨g, 0, none⟩) td.length cap) td) := HRc.out.below b4
            clear hN hcase b4 HRc cv0 cv1
            have HSL4 : Hid (SlR w1.heap.size asl N (rdK (wordAt ws p)) w4 (.slice (some ⟨g, 0, none⟩) td.length cap)) := by
              rcases HCASE.out with h | ⟨b, M, gg, h1, h2, h3, h4, h5, h6⟩
              · exact .inl h
              · refine .inr ⟨b, M, gg, h1, h4, h5, h6, by omega, ?_⟩
                simp [Value.ownBlock]
                omega
            clear HCASE
            rename_i wr0 _ _
            go_wp2_with fail
            go_loopw [6, 12] (fun v i wr => ∃ k : Nat, k ≤ N ∧ i = .int .i64 k ∧ RstS w1.heap.size ws.length w1 wr v (reachN ws (slotF ws p) (n : Int) (fun j => (j : Int)) k td) ∧ SlR w1.heap.size asl N (rdK (wordAt ws p)) wr v) (fun _ i _ => N - (intOf i).toNat)
            case atStart => exact ⟨0, Nat.zero_le _, rfl, HR4.out, HSL4.out⟩
            case round =>
              obtain ⟨k, hk, rfl, hR, hSl⟩ := hrel
              obtain ⟨tk, htk⟩ : ∃ tk, tk = reachN ws (slotF ws p) (n : Int) (fun j => (j : Int)) k td := ⟨_, rfl⟩
              rw [← htk] at hR
              by_cases hlt3 : k < N
              · have hlt3' : (k : Int) < (N : Int) := by omega
                have hck : Come mk (plS tk) := by rw [htk, reachN_pl]; exact comeN_good k HCO.out (fun j hj => known_slots HK.out HOB.out hpl j (by have := HN.out; omega))
                obtain ⟨l, hl⟩ := reachN_pre ws (slotF ws p) (n : Int) (fun j => (j : Int)) k td
                rw [← htk] at hl
                have hnk : n < tk.length := by rw [hl, List.length_append]; omega
                have hpk : (plS tk).getD n 0 = p := by rw [hl, show plS (td ++ l) = plS td ++ plS l by simp [plS], getD_pre (by rw [plS_len]; exact hlt), HPD.out]
                have hkl : tk.length ≤ ws.length := by rw [← plS_len]; exact come_length HK.out hck
                obtain ⟨g', cap', rfl, hg1', hg2', hgc'⟩ := hR.item hnk
                rw [hpk] at hgc'
                obtain ⟨bsl, M, gg, rfl, hNM, hrow, hgg, hbb, hob⟩ : ∃ b M gg, asl = some ⟨b, 0, none⟩ ∧ N ≤ M ∧ wr.rowIs b 3 M gg ∧ (∀ i, i < N → gg i = .int .i64 (fs (rdK (wordAt ws p)) + 2 * (i : Int))) ∧ w1.heap.size < b ∧ (Value.slice (some ⟨g', 0, none⟩) tk.length cap').ownBlock ≠ some b := by
                  rcases hSl with h | h
                  · omega
                  · exact h
                have hJ : k < slN (rdK (wordAt ws p)) (rdS (wordAt ws p)) := by have := HN.out; omega
                obtain ⟨x1, x2⟩ := slot_inR hrd hJ
                obtain ⟨X, hX⟩ : ∃ X, X = slotX ws p k := ⟨_, rfl⟩
                rw [← hX] at x1 x2
                have hX1 : X + 1 < ws.length := by omega
                obtain ⟨Y, hY⟩ : ∃ Y : Int, Y = fs (rdK (wordAt ws p)) + 2 * (k : Int) := ⟨_, rfl⟩
                have hY0 : 0 ≤ Y := by have := fs_pos (rdK (wordAt ws p)); omega
                have hXY : (p : Int) + Y = (X : Int) := by rw [hX, hY]; unfold slotX; have := fs_pos (rdK (wordAt ws p)); omega
                have yk : wr.cell? ⟨bsl, k, none⟩ = some (.int .i64 Y) := by rw [hrow.cell (i := k) (by omega), hgg k hlt3, hY]
                obtain ⟨t, ht⟩ : ∃ t, t = rvT ws X := ⟨_, rfl⟩
                obtain ⟨m, hm⟩ : ∃ m, m = rvN ws X := ⟨_, rfl⟩
                have HNX : Hid (reachN ws (slotF ws p) (n : Int) (fun j => (j : Int)) (k + 1) td = reachP ws tk t m (n : Int) (k : Int)) := by
                  show reachP ws (reachN ws (slotF ws p) (n : Int) (fun j => (j : Int)) k td) (rvT ws (slotX ws p k)) (rvN ws (slotX ws p k)) (n : Int) (k : Int) = _
                  rw [← htk, ← hX, ← ht, ← hm]
                have hleads : isR t = true → ∃ mm q : Nat, m = (mm : Int) ∧ mm < ws.length ∧ leadsAt ws mm = (q : Int) ∧ q < ws.length := fun hr => by
                  have ho := (HK.out.objs p hpl HOB.out).1 k (by have := HN.out; omega)
                  have ho1 : rvOk ws X = true := by rw [hX]; exact ho.1
                  have ho2 := ho.2.1
                  have hmp : 0 < m := by rw [hm]; exact rv_ref hw ho1 (by rw [← ht]; exact hr)
                  have hl2 := ho2 (by show isR (rvT ws (slotX ws p k)) = true; rw [← hX, ← ht]; exact hr)
                  have hm' : rvN ws (p + (fs (rdK (wordAt ws p)) + 2 * (k : Int)).toNat) = m := by rw [hm, hX]; rfl
                  rw [hm'] at hl2
                  obtain ⟨u1, u2, _⟩ := hl2
                  have hmk := fromOk_ne u2
                  have hmm := HK.out.marks m.toNat (by omega) hmk
                  exact ⟨m.toNat, (leadsAt ws m.toNat).toNat, by omega, by omega, by omega, by omega⟩
                have kr := has_below HK1.out hR.2.2 z1
                have lr := hR.lt
                have lH : w.heap.size < wr.heap.size := by omega
                have hB1r : Below w.heap.size w wr := HB1.out.trans (hR.2.2.mono (Nat.le_of_lt z1))
                have HRD : Hid (∀ (W : World) (x : Int), x = (X : Int) → Below wr.heap.size wr W → Calls Tryz.prog 45 #[.slice aw ws.length cw, .int .i64 x] W fun e w' => e = .returned (.tuple #[.agg #[.int .i64 t, .int .i64 m], .bool (rvOk ws X)]) ∧ Below W.heap.size W w') := fun W x hx hW => by
                  rw [ht, hm]
                  exact l1Read_at _ ws _ X _ hx (HS.out.below (below_next hB1r hW)) hn hw hX1
                have lbs : bsl < wr.heap.size := hrow.lt
                have KP : ∀ V, Below wr.heap.size wr V → (Below wr.heap.size wr V ∧ V.cell? ⟨w.heap.size, 0, none⟩ = some (.slice aw ws.length cw) ∧ V.cell? ⟨g', n * 3, none⟩ = some (.int .i64 (p : Int)) ∧ V.cell? ⟨bsl, k, none⟩ = some (.int .i64 Y)) := fun V hV => ⟨hV, by rw [hV.cell (p := ⟨w.heap.size, 0, none⟩) lH, kr 0]; rfl, by rw [hV.cell (p := ⟨g', n * 3, none⟩) hg2']; exact hgc', by rw [hV.cell (p := ⟨bsl, k, none⟩) lbs]; exact yk⟩
                have HXw : Hid (IntKind.i64.wrap ((p : Int) + Y) = (X : Int)) := by show IntKind.i64.wrap ((p : Int) + Y) = (X : Int); rw [IntKind.wrap_i64]; omega
                have HXy : Hid ((p : Int) + Y = (X : Int)) := hXY
                have HRk : Hid (RstS w1.heap.size ws.length w1 wr (.slice (some ⟨g', 0, none⟩) tk.length cap') tk) := hR
                have HLk : Hid (SlR w1.heap.size (some ⟨bsl, 0, none⟩) N (rdK (wordAt ws p)) wr (.slice (some ⟨g', 0, none⟩) tk.length cap')) := hSl
                have hnk' : (n : Int) < (tk.length : Int) := by omega
                have hkl' : (tk.length : Int) ≤ (ws.length : Int) := by omega
                clear hR hSl hrow hgg hob hck hl hpk htk hX hY hXY ht hm x1 x2 hB1r hgc' yk
                go_upto_region 18 with fail
                go_cut [13, 14] from 83 to 98 (fun s11 s12 wc => ∃ cV : Nat, s11 = .pointer (some ⟨cV, 0, none⟩) ∧ s12 = .bool (rvOk ws X) ∧ wc.cell? ⟨cV, 0, none⟩ = some (.int .i64 t) ∧ wc.cell? ⟨cV, 1, none⟩ = some (.int .i64 m) ∧ Below wr.heap.size wr wc)
                case first =>
                  clear kr
                  go_region_held3 (fun V => (Below wr.heap.size wr V ∧ V.cell? ⟨w.heap.size, 0, none⟩ = some (.slice aw ws.length cw) ∧ V.cell? ⟨g', n * 3, none⟩ = some (.int .i64 (p : Int)) ∧ V.cell? ⟨bsl, k, none⟩ = some (.int .i64 Y))) (first | exact KP _ (by assumption) | exact KP _ (Below.refl _ _) | exact KP _ (Below.refl _ _).drew | exact KP _ (alloc_own (And.left (by assumption)) _) | (refine KP _ ?_; repeat (first | assumption | exact And.left (by assumption) | refine Below.setCell ?_ (by first | exact Nat.le_refl _ | (simp; done) | (simp; omega)) _ | refine alloc_own ?_ _))) (first | (go_at_call 45; refine (HRD.out _ _ (by first | exact HXw.out | exact HXy.out) (And.left (by assumption))).mono ?_; rintro e w' ⟨rfl, hb⟩; have hB3 := below_next (w := wr) (And.left (by assumption)) hb; have hz3 := hB3.size; obtain ⟨hc, hf⟩ := bcell hb; have hz := hb.size; simp at hz; clear hb))
                  · go_wp2_with fail
                    go_meet
                    exact ⟨_, rfl, rfl, by simp [go_sem], by simp [go_sem], alloc_own hB3 _⟩
                  · go_wp2_with fail
                    go_meet
                    have p0 : (w'.cell? ⟨wr.heap.size, 0, none⟩).isSome = true := by rw [hc _ _ (by simp)]; simp [go_sem]
                    have p1 : (w'.cell? ⟨wr.heap.size, 1, none⟩).isSome = true := by rw [hc _ _ (by simp)]; simp [go_sem]
                    exact ⟨_, rfl, rfl, by simp [go_sem, p0, p1], by simp [go_sem, p0, p1], (hB3.setCell (p := ⟨wr.heap.size, 0, none⟩) (Nat.le_refl _) _).setCell (p := ⟨wr.heap.size, 1, none⟩) (Nat.le_refl _) _⟩
                case rest =>
                  obtain ⟨cV, rfl, rfl, cv0, cv1, hBc⟩ := hcut
                  have lcV : cV < wc.heap.size := World.block_lt_of_cell? _ ⟨cV, 0, none⟩ cv0
                  have kc := has_below kr hBc lH
                  have lHc : w.heap.size < wc.heap.size := Nat.lt_of_lt_of_le lH hBc.size
                  have lsc : w1.heap.size < wc.heap.size := Nat.lt_of_lt_of_le lr hBc.size
                  have HRc : Hid (RstS w1.heap.size ws.length w1 wc (.slice (some ⟨g', 0, none⟩) tk.length cap') tk) := HRk.out.below hBc
                  have HLc : Hid (SlR w1.heap.size (some ⟨bsl, 0, none⟩) N (rdK (wordAt ws p)) wc (.slice (some ⟨g', 0, none⟩) tk.length cap')) := HLk.out.below hBc
                  clear KP kr HRk HLk hBc HRD HXw HXy
                  cases hr : isR t with
                  | false =>
                    have HRF : Hid (isR t = false) := hr
                    have HE : Hid (reachP ws tk t m (n : Int) (k : Int) = tk) := reachP_no hr
                    clear hleads hr
                    go_wp2_with (go_at_call 42; refine (specIsRef_any _ _ _).mono ?_; rw [HRF.out]; rintro e w4 ⟨rfl, b4⟩; obtain ⟨hc4, hf4⟩ := bcell b4; have z4 := b4.size; have ls4 : w1.heap.size < w4.heap.size := Nat.lt_of_lt_of_le lsc z4; have lH4 : w.heap.size < w4.heap.size := Nat.lt_of_lt_of_le lHc z4; have lV4 : cV < w4.heap.size := Nat.lt_of_lt_of_le lcV z4; have Rn4 : Hid (RstS w1.heap.size ws.length w1 w4 (.slice (some ⟨g', 0, none⟩) tk.length cap') tk) := HRc.out.below b4; have Sl4 : Hid (SlR w1.heap.size (some ⟨bsl, 0, none⟩) N (rdK (wordAt ws p)) w4 (.slice (some ⟨g', 0, none⟩) tk.length cap')) := HLc.out.below b4; clear b4)
                    go_roundw
                    case rel => exact ⟨k + 1, by omega, by go_num, by rw [HNX.out, HE.out]; exact Rn4.out, Sl4.out⟩
                    case measure => simp [intOf]; omega
                  | true =>
                    have HRF : Hid (isR t = true) := hr
                    obtain ⟨mm, q, rfl, hmw, hql, hqw⟩ := hleads hr
                    have HQL : Hid (leadsAt ws mm = (q : Int)) := hql
                    have hqq : (leadsAt ws (mm : Int).toNat).toNat = q := by rw [Int.toNat_natCast, hql, Int.toNat_natCast]
                    have hqw' : (q : Int) < (ws.length : Int) := by omega
                    by_cases hm : q ∈ plS tk
                    · have HE : Hid (reachP ws tk t (mm : Int) (n : Int) (k : Int) = tk) := reachP_in hqq hm
                      have xs : wc.cell? ⟨w1.heap.size, q, none⟩ = some (.bool true) := by rw [HRc.out.2.1.cell (by omega)]; simp [hm]
                      clear hleads hr hm hqq hql
                      go_wp2_with (first | (go_at_call 42; refine (specIsRef_any _ _ _).mono ?_; rw [HRF.out]; rintro e w4 ⟨rfl, b4⟩; obtain ⟨hc4, hf4⟩ := bcell b4; have z4 := b4.size; have ls4 : w1.heap.size < w4.heap.size := Nat.lt_of_lt_of_le lsc z4; have lH4 : w.heap.size < w4.heap.size := Nat.lt_of_lt_of_le lHc z4; have lV4 : cV < w4.heap.size := Nat.lt_of_lt_of_le lcV z4; have Rn4 : Hid (RstS w1.heap.size ws.length w1 w4 (.slice (some ⟨g', 0, none⟩) tk.length cap') tk) := HRc.out.below b4; have Sl4 : Hid (SlR w1.heap.size (some ⟨bsl, 0, none⟩) N (rdK (wordAt ws p)) w4 (.slice (some ⟨g', 0, none⟩) tk.length cap')) := HLc.out.below b4; clear b4) | (go_at_call 46; refine (l2Where_at _ _ _ _ _ _ _ _ _ _ _ _ _ _ _ mm _ rfl (HS.out.below (HB1.out.trans (Rn4.out.2.2.mono (Nat.le_of_lt z1)))) hn hw hmw).mono ?_; rw [HQL.out]; rintro e w5 ⟨rfl, b5⟩; obtain ⟨hc5, hf5⟩ := bcell b5; have z5 := b5.size; have ls5 : w1.heap.size < w5.heap.size := Nat.lt_of_lt_of_le ls4 z5; have Rn5 : Hid (RstS w1.heap.size ws.length w1 w5 (.slice (some ⟨g', 0, none⟩) tk.length cap') tk) := Rn4.out.below b5; have Sl5 : Hid (SlR w1.heap.size (some ⟨bsl, 0, none⟩) N (rdK (wordAt ws p)) w5 (.slice (some ⟨g', 0, none⟩) tk.length cap')) := Sl4.out.below b5; clear b5))
                      go_roundw
                      case rel => exact ⟨k + 1, by omega, by go_num, by rw [HNX.out, HE.out]; exact Rn5.out, Sl5.out⟩
                      case measure => simp [intOf]; omega
                    · have HE : Hid (reachP ws tk t (mm : Int) (n : Int) (k : Int) = tk ++ [(q, (n : Int), (k : Int))]) := reachP_new hr hqq hm
                      have HM : Hid (q ∉ plS tk) := hm
                      have xs : wc.cell? ⟨w1.heap.size, q, none⟩ = some (.bool false) := by rw [HRc.out.2.1.cell (by omega)]; simp [hm]
                      have fz := HRc.out.2.1.frozen
                      clear hleads hr hm hqq hql
                      go_wp2_with (first | (go_at_call 42; refine (specIsRef_any _ _ _).mono ?_; rw [HRF.out]; rintro e w4 ⟨rfl, b4⟩; obtain ⟨hc4, hf4⟩ := bcell b4; have z4 := b4.size; have ls4 : w1.heap.size < w4.heap.size := Nat.lt_of_lt_of_le lsc z4; have lH4 : w.heap.size < w4.heap.size := Nat.lt_of_lt_of_le lHc z4; have lV4 : cV < w4.heap.size := Nat.lt_of_lt_of_le lcV z4; have Rn4 : Hid (RstS w1.heap.size ws.length w1 w4 (.slice (some ⟨g', 0, none⟩) tk.length cap') tk) := HRc.out.below b4; have Sl4 : Hid (SlR w1.heap.size (some ⟨bsl, 0, none⟩) N (rdK (wordAt ws p)) w4 (.slice (some ⟨g', 0, none⟩) tk.length cap')) := HLc.out.below b4; clear b4) | (go_at_call 46; refine (l2Where_at _ _ _ _ _ _ _ _ _ _ _ _ _ _ _ mm _ rfl (HS.out.below (HB1.out.trans (Rn4.out.2.2.mono (Nat.le_of_lt z1)))) hn hw hmw).mono ?_; rw [HQL.out]; rintro e w5 ⟨rfl, b5⟩; obtain ⟨hc5, hf5⟩ := bcell b5; have z5 := b5.size; have ls5 : w1.heap.size < w5.heap.size := Nat.lt_of_lt_of_le ls4 z5; have Rn5 : Hid (RstS w1.heap.size ws.length w1 w5 (.slice (some ⟨g', 0, none⟩) tk.length cap') tk) := Rn4.out.below b5; have Sl5 : Hid (SlR w1.heap.size (some ⟨bsl, 0, none⟩) N (rdK (wordAt ws p)) w5 (.slice (some ⟨g', 0, none⟩) tk.length cap')) := Sl4.out.below b5; clear b5) | (at_builtin; refine wpList_append_own_at _ rfl _ _ 114 rfl (w1.heap.size + 1) 117 i0 (.agg #[.int .i64 0, .int .i64 0, .int .i64 0]) 3 24 Tryz.underlying114 hi hz0 hz1' hz2 rfl (by decide) _ tk.length (c3 tk) rfl ((Rn5.out.marked _ _).alloc _) ⟨_, 0, none⟩ 1 1 [.int .i64 (q : Int), .int .i64 (n : Int), .int .i64 (k : Int)] rfl rfl (fun j u hj => by have h9 := cell_three_new (w5.setCell ⟨w1.heap.size, q, none⟩ (.bool true)) (.int .i64 (q : Int)) (.int .i64 (n : Int)) (.int .i64 (k : Int)) 117 j u hj; simpa using h9) (ints_oneCell .i64 [(q : Int), (n : Int), (k : Int)]) (by unfold maxLen; omega) (by omega) (by simp; omega) ?_))
                      intro v' w6 hown hgrow _ hloc
                      have R6 := Rn5.out.put hqw HM.out hown hgrow
                      have S6 := Sl5.out.put hgrow (by simpa using hloc)
                      clear hown hgrow hloc
                      go_wp2
                      go_roundw
                      case rel => exact ⟨k + 1, by omega, by go_num, by rw [HNX.out, HE.out]; exact R6, S6⟩
                      case measure => simp [intOf]; omega
              · have hge3 : (N : Int) ≤ (k : Int) := by omega
                have hkN : k = N := by omega
                have HGO : Hid (BfsS ws (n + 1) tk R) := by
                  have := HBF.out.step hlt hll
                  rw [← plS_get, ← HPD.out] at this
                  have e : tk = goneS ws p n td := by rw [htk, hkN, HN.out]; rfl
                  rw [e]
                  exact this
                have HCK : Hid (Come mk (plS tk)) := by show Come mk (plS tk); rw [htk, reachN_pl]; exact comeN_good k HCO.out (fun j hj => known_slots HK.out HOB.out hpl j (by have := HN.out; omega))
                obtain ⟨l, hl⟩ := reachN_pre ws (slotF ws p) (n : Int) (fun j => (j : Int)) k td
                rw [← htk] at hl
                have HLE : Hid (n + 1 ≤ tk.length) := by show _ ≤ _; rw [hl, List.length_append]; omega
                have HRk : Hid (RstS w1.heap.size ws.length w1 wr _ tk) := hR
                clear htk hl hSl hkN hR
                go_wp2
                go_roundw
                case rel => exact ⟨n + 1, tk, HLE.out, by go_num, HCK.out, HGO.out, HRk.out⟩
                case measure => simp [intOf]; omega
        · have hge : (td.length : Int) ≤ (n : Int) := by omega
          obtain ⟨ta, tc, rfl⟩ := hR.head
          have hRR : R = td := hbfs.done hlt
          have HOW : Hid (wr.ownsRow w.heap.size 117 3 (.slice ta td.length tc) R.length (c3 R)) := by rw [hRR]; exact owns_mono hR.1 (by omega)
          have HBF : Hid (Below w.heap.size w wr) := HB1.out.trans (hR.2.2.mono (Nat.le_of_lt z1))
          clear hRR hR hbfs hcome
          go_wp2
          go_ret
          exact ⟨_, rfl, HOW.out, HBF.out⟩
end Go.Proofs.YtmckcnmlhgpnhaaGreat
