/- The model's Jumps. -/
import Derived.Test.YtpjliclgjplebaaKJmA
import Derived.Test.YtpjliclgjplebaaKRowF
import Derived.Laws.MakeOwn
import Derived.Deep.CutRange
import Derived.WalkKit
import Derived.WalkSpells
import Derived.WalkLawsBesides
import Derived.Below
import Derived.Outline
import Derived.Deep.Light
import Derived.Deep.OwnRows
import Derived.Deep.QuietTactic
import Derived.BigQuiet
import Derived.Deep.RegionWith
import Derived.Deep.RegionHeld
import Derived.Deep.RegionHeld3
import Derived.WalkSmall
namespace Go.Proofs.Ytpjliclgjplebaa
set_option maxRecDepth 20000
open Go.RowKit Go.Maps
set_option linter.unusedSimpArgs false
set_option linter.unusedVariables false

/-- An operation of a drawn region is taken: wanted, or not. -/
theorem tkJ {P : Program} {md : Region.Mode} {ops : Array Oper} {Q : Exit → Act → World → Prop} {S : World → Prop} {fuel : Nat} {listed : Array Bool} {a : Act} {w : World} {o : Op} {ty : TypeId} {ps : String} {af : Array Edge} {gd : Option (Nat × Bool)} (i d : Nat) (v : Value) (hS : S w) (hi : ops[i]? = some { dst := some d, op := o, type := ty, pos := ps, after := af, guard := gd })
    (h : wpAnyH P md ops Q S fuel (listed.setIfInBounds i true) (a.put (some d) v) w)
    (hv : ∀ w, S w → (execOp a.eval { dst := some d, op := o, type := ty, pos := ps, after := af, guard := gd }).run P w = .ok (.value v) w := by intro w hSw; (try dsimp only at hSw); go_simp)
    (hw : Region.wanted { dst := some d, op := o, type := ty, pos := ps, after := af, guard := gd } (yielded ops a.tmps) = true := by kernel_rfl)
    (hs : Region.noSelect ops = true := by kernel_rfl) (hf : Region.free md ops listed i = true := by kernel_rfl) (hr : (Region.ready md ops listed).contains i = true := by kernel_rfl)
    (hQ : ∀ c a w, Q (.panic c) (a.put (some d) v) w → Q (.panic c) a w := by exact fun _ _ _ h => h) : wpAnyH P md ops Q S (fuel + 1) listed a w :=
  wpAnyH_take hi hs hf hr hQ (Or.inl ⟨hw, hv⟩) hS h
set_option maxHeartbeats 8000000 in
theorem specJumps_at (pa sl : Int) (au : Option Addr) (nu cu : Nat) (ac : Option Addr) (n cc : Nat) (y : Nat → Int) (T : Nat) (w : World) (hs : SlF T w (.slice ac n cc) n (2 * n) (fun i => .int .i64 (y i))) (hn : n ≤ 1048576) :
    Calls Try.prog 6 #[.agg #[.int .i64 pa, .int .i64 sl, .slice au nu cu, .slice ac n cc]] w fun e w' => ∃ v, e = .returned v ∧ OwnF w.heap.size w'.heap.size 3 w' v (jmN y n).length (jmN y n).length (fun i => .int .i64 ((jmN y n).getD i 0)) ∧ Below w.heap.size w w' := by
  obtain ⟨i0, hi, hz0, hz1', hz2⟩ := info_parts infoInt
  have hn' : (n : Int) ≤ 1048576 := by omega
  have HS : Hid (SlF w.heap.size w (.slice ac n cc) n (2 * n) (fun i => .int .i64 (y i))) := hs.here
  clear hs
  go_enter Try.func6, Try.ntmps6
  go_upto_region 2 with fail
  obtain ⟨w0, hw0⟩ : ∃ V, V = (w.alloc (.cells #[.int .i64 pa, .int .i64 sl, .slice au nu cu, .slice ac n cc] 32)).alloc (.cells #[] 3) := ⟨_, rfl⟩
  rw [← hw0]
  have B0 : Hid (Below w.heap.size w w0) := by rw [hw0]; exact ((Below.refl _ _).alloc (Nat.le_refl _) _).alloc (by simp) _
  have k0 : Hid (w0.cell? ⟨w.heap.size, 3, none⟩ = some (.slice ac n cc)) := by show _ = _; rw [hw0]; simp [go_sem]
  have z0 : w.heap.size < w0.heap.size := by rw [hw0]; simp; omega
  have I0 : Hid (IR w.heap.size w0 (.slice (some ⟨w.heap.size + 1, 0, none⟩) 0 0) []) := by
    have := IR.new (B := w.heap.size) (w := w.alloc (.cells #[.int .i64 pa, .int .i64 sl, .slice au nu cu, .slice ac n cc] 32)) [] (by simp) (by simp)
    rw [hw0]
    show IR _ _ _ _
    simpa [icl] using this
  clear hw0
  go_wp2_with fail
  go_loopw [3, 4] (fun v i wr => ∃ (k : Nat) (u : Value), k ≤ n ∧ u = v ∧ i = .int .i64 k ∧ IR w.heap.size wr u (jmN y k) ∧ u ≠ .slice none 0 0 ∧ Below w0.heap.size w0 wr) (fun _ i _ => n - (intOf i).toNat)
  case atStart => exact ⟨0, _, Nat.zero_le _, rfl, rfl, I0.out, by simp, Below.refl _ _⟩
  case round =>
    obtain ⟨k, u, hk, rfl, rfl, hU, hne, hF⟩ := hrel
    have kr : wr.cell? ⟨w.heap.size, 3, none⟩ = some (.slice ac n cc) := by rw [hF.cell (p := ⟨w.heap.size, 3, none⟩) z0]; exact k0.out
    have BW : Hid (Below w.heap.size w wr) := B0.out.trans (hF.mono (by omega))
    have zr := hF.size
    by_cases hlt : k < n
    · have hlt' : (k : Int) < (n : Int) := by omega
      obtain ⟨br, offr, cap', hv, _, lbr, hcr⟩ := HS.out.parts (k := 0) (by omega)
      simp only [Value.slice.injEq] at hv
      obtain ⟨rfl, _, rfl⟩ := hv
      have x0 : wr.cell? ⟨br, offr + k * 2, none⟩ = some (.int .i64 (y (2 * k))) := by rw [BW.out.cell (p := ⟨br, offr + k * 2, none⟩) lbr, Nat.mul_comm]; exact hcr (2 * k) (by omega)
      have x1 : wr.cell? ⟨br, offr + k * 2 + 1, none⟩ = some (.int .i64 (y (2 * k + 1))) := by rw [BW.out.cell (p := ⟨br, offr + k * 2 + 1, none⟩) lbr, Nat.mul_comm]; exact hcr (2 * k + 1) (by omega)
      have hJ : jmN y (k + 1) = jmP (jmN y k) (y (2 * k)) (y (2 * k + 1)) := rfl
      have HJ : Hid (jmN y (k + 1) = jmP (jmN y k) (y (2 * k)) (y (2 * k + 1))) := hJ
      have hol : (jmN y k).length ≤ 1048576 := by have := jmN_len y k; omega
      obtain ⟨out, hout⟩ : ∃ o, o = jmN y k := ⟨_, rfl⟩
      rw [← hout] at hU HJ hol
      generalize y (2 * k) = op at x0 HJ
      generalize y (2 * k + 1) = s at x1 HJ
      obtain ⟨wx, hwx⟩ : ∃ V, V = wr.alloc (.cells #[.int .i64 op, .int .i64 s] 42) := ⟨_, rfl⟩
      obtain ⟨xb, hxb⟩ : ∃ b, b = wr.heap.size := ⟨_, rfl⟩
      have bc : Below wr.heap.size wr wx := by rw [hwx]; exact (Below.refl _ _).alloc (Nat.le_refl _) _
      have xc0 : wx.cell? ⟨xb, 0, none⟩ = some (.int .i64 op) := by rw [hwx, hxb]; simp [go_sem]
      have xc1 : wx.cell? ⟨xb, 1, none⟩ = some (.int .i64 s) := by rw [hwx, hxb]; simp [go_sem]
      have lxb : xb < wx.heap.size := by rw [hwx, hxb]; simp
      have HUc : Hid (IR w.heap.size wx u out) := hU.below bc
      have HBc : Hid (Below w0.heap.size w0 wx) := hF.trans (bc.mono zr)
      have BWc : Hid (Below w.heap.size w wx) := below_next BW.out bc
      have HNE : Hid (u ≠ .slice none 0 0) := hne
      have HWX : Hid (wx = wr.alloc (.cells #[.int .i64 op, .int .i64 s] 42)) := hwx
      have HXB : Hid (xb = wr.heap.size) := hxb
      clear hJ hcr hU hne hF hout BW bc I0 hwx hxb
      go_upto_region 6 with fail
      rw [← HWX.out, ← HXB.out]
      clear x0 x1 kr HWX HXB
      by_cases ho : op < 18 ∨ 21 < op
      · have HU1 : Hid (IR w.heap.size wx u (jmN y (k + 1))) := by show IR _ _ _ _; rw [HJ.out]; unfold jmP; rw [if_pos ho]; exact HUc.out
        rcases ho with ho | ho
        all_goals
          go_wp2
          go_roundw
          case rel => exact ⟨k + 1, _, by omega, rfl, by go_num, HU1.out, HNE.out, HBc.out⟩
          case measure => simp [intOf]; omega
      · have ho1 : ¬ op < 18 := fun h => ho (.inl h)
        have ho2 : ¬ 21 < op := fun h => ho (.inr h)
        have HJ2 : Hid (jmN y (k + 1) = if lowN out s < out.length ∧ out.getD (lowN out s) 0 = s then out else insS out s) := by show _ = _; rw [HJ.out]; unfold jmP; rw [if_neg ho]
        clear ho HJ
        obtain ⟨bo, co, rfl, hoc, lbo, hox⟩ := ir_parts HUc.out HNE.out
        have HXo : Hid (∀ i, i < out.length → wx.cell? ⟨bo, i, none⟩ = some (.int .i64 (out.getD i 0))) := hox
        have hol' : (out.length : Int) ≤ 1048576 := by omega
        have hll := lowN_le out s
        clear hox
        go_wp2_with fail
        go_loopw [6] (fun q wr2 => ∃ j : Nat, j ≤ lowN out s ∧ q = .int .i64 j ∧ Below wx.heap.size wx wr2) (fun q _ => lowN out s - (intOf q).toNat)
        case atStart => exact ⟨0, Nat.zero_le _, rfl, Below.refl _ _⟩
        case round =>
          obtain ⟨j, hj, rfl, hG⟩ := hrel
          have xw : wr.cell? ⟨xb, 1, none⟩ = some (.int .i64 s) := by rw [hG.cell (p := ⟨xb, 1, none⟩) lxb]; exact xc1
          by_cases hjl : j < lowN out s
          · have hlt3 := lowN_lt out s j hjl
            have hjL : (j : Int) < (out.length : Int) := by omega
            have xj : wr.cell? ⟨bo, j, none⟩ = some (.int .i64 (out.getD j 0)) := by rw [hG.cell (p := ⟨bo, j, none⟩) lbo]; exact HXo.out j (by omega)
            generalize out.getD j 0 = oj at xj hlt3
            go_wp2_with fail
            go_quiet (fail)
            go_wp2
            go_roundw
            case rel => exact ⟨j + 1, by omega, by go_num, below_drewN hG _⟩
            case measure => simp [intOf]; omega
          · have hjl : j = lowN out s := by omega
            have hj1 : j ≤ out.length := by omega
            obtain ⟨q, hq⟩ : ∃ q : Bool, (q = true ↔ (j < out.length ∧ out.getD j 0 = s)) := by
              by_cases h : j < out.length ∧ out.getD j 0 = s
              · exact ⟨true, fun _ => h, fun _ => rfl⟩
              · exact ⟨false, fun e => (by cases e), fun e => absurd e h⟩
            have HQ : Hid (q = true ↔ (j < out.length ∧ out.getD j 0 = s)) := hq
            have hco : ¬ ((j : Int) < (out.length : Int)) ∧ q = false ∨ ((j : Int) < (out.length : Int) ∧ ∃ oj : Int, wr.cell? ⟨bo, j, none⟩ = some (.int .i64 oj) ∧ ¬ oj < s ∧ (oj == s) = q) := by
              by_cases h : j < out.length
              · refine .inr ⟨by omega, out.getD j 0, by rw [hG.cell (p := ⟨bo, j, none⟩) lbo]; exact HXo.out j h, by rw [hjl]; exact lowN_ge out s (by rw [← hjl]; exact h), ?_⟩
                rw [Bool.eq_iff_iff, hq, beq_iff_eq]
                exact ⟨fun e => ⟨h, e⟩, fun e => e.2⟩
              · exact .inl ⟨by omega, by cases q with
                  | false => rfl
                  | true => exact absurd (hq.1 rfl).1 h⟩
            have HJL : Hid (j = lowN out s) := hjl
            have HG : Hid (Below wx.heap.size wx wr) := hG
            have lbr2 : bo < wr.heap.size := Nat.lt_of_lt_of_le lbo hG.size
            have lxr : xb < wr.heap.size := Nat.lt_of_lt_of_le lxb hG.size
            clear hq hjl hG hj hll
            go_upto_region 8 with fail
            go_cut [41] from 29 to 40 (fun s41 wc => s41 = .bool false ∧ Below wr.heap.size wr wc)
            case first =>
              rcases hco with ⟨hco, hq0⟩ | ⟨hco, oj, xj, hoj, hq0⟩
              all_goals
                go_quiet (fail)
                go_wp2_with fail
                go_meet
                exact ⟨rfl, below_drewN (Below.refl _ _) _⟩
            case rest =>
              obtain ⟨rfl, hB1⟩ := hcut
              rename World => wb
              go_upto_region 10 with fail
              have hco2 : ¬ ((j : Int) < (out.length : Int)) ∧ q = false ∨ ((j : Int) < (out.length : Int) ∧ ∃ oj : Int, wb.cell? ⟨bo, j, none⟩ = some (.int .i64 oj) ∧ (oj == s) = q) := by
                rcases hco with h | ⟨h, oj, xj, _, h2⟩
                · exact .inl h
                · exact .inr ⟨h, oj, by rw [hB1.cell (p := ⟨bo, j, none⟩) lbr2]; exact xj, h2⟩
              have xw2 : wb.cell? ⟨xb, 1, none⟩ = some (.int .i64 s) := by rw [hB1.cell (p := ⟨xb, 1, none⟩) lxr]; exact xw
              have HGb : Hid (Below wx.heap.size wx wb) := HG.out.trans (hB1.mono HG.out.size)
              clear hco xw hB1
              go_cut [56] from 44 to 55 (fun s56 wc => s56 = .bool q ∧ Below wb.heap.size wb wc)
              case first =>
                rcases hco2 with ⟨hco, hq0⟩ | ⟨hco, oj, xj, hq0⟩
                · subst hq0
                  go_quiet (fail)
                  go_wp2_with fail
                  go_meet
                  exact ⟨rfl, below_drewN (Below.refl _ _) _⟩
                · go_quiet (fail)
                  go_wp2_with fail
                  go_meet
                  exact ⟨by first | rfl | rw [hq0], below_drewN (Below.refl _ _) _⟩
              case rest =>
                obtain ⟨rfl, hB2⟩ := hcut
                rename World => wq
                have hBXq : Below wx.heap.size wx wq := HGb.out.trans (hB2.mono HGb.out.size)
                have HBq : Hid (Below w0.heap.size w0 wq) := HBc.out.trans (hBXq.mono HBc.out.size)
                have BWq : Hid (Below w.heap.size w wq) := BWc.out.trans (hBXq.mono BWc.out.size)
                have HUq : Hid (IR w.heap.size wq (.slice (some ⟨bo, 0, none⟩) out.length co) out) := HUc.out.below hBXq
                have HXq : Hid (∀ i, i < out.length → wq.cell? ⟨bo, i, none⟩ = some (.int .i64 (out.getD i 0))) := fun i hi => by rw [hBXq.cell (p := ⟨bo, i, none⟩) lbo]; exact HXo.out i hi
                have xq1 : wq.cell? ⟨xb, 1, none⟩ = some (.int .i64 s) := by rw [hBXq.cell (p := ⟨xb, 1, none⟩) lxb]; exact xc1
                have lbq : bo < wq.heap.size := Nat.lt_of_lt_of_le lbo hBXq.size
                have lxq : xb < wq.heap.size := Nat.lt_of_lt_of_le lxb hBXq.size
                have szq := BWq.out.size
                clear hco2 xw2 hB2 hBXq HG HGb HXo HUc lbo lxb xc1 xc0
                cases q with
                | true =>
                  have h2 := HQ.out.1 rfl
                  have HU1 : Hid (IR w.heap.size wq (.slice (some ⟨bo, 0, none⟩) out.length co) (jmN y (k + 1))) := by show IR _ _ _ _; rw [HJ2.out, if_pos (by rw [← HJL.out]; exact h2)]; exact HUq.out
                  clear h2
                  go_wp2
                  go_roundw
                  case rel => exact ⟨k + 1, _, by omega, rfl, by go_num, HU1.out, by simp, HBq.out⟩
                  case measure => simp [intOf]; omega
                | false =>
                  have h2 : ¬ (j < out.length ∧ out.getD j 0 = s) := fun e => by have := HQ.out.2 e; cases this
                  have HINS : Hid (jmN y (k + 1) = insS out s) := by show _ = _; rw [HJ2.out, if_neg (by rw [← HJL.out]; exact h2)]
                  obtain ⟨ob, hob⟩ : ∃ ob, ob = (if co = j then 0 else j) := ⟨_, rfl⟩
                  have hsl1 : ∀ W, (Instr.sliceAt 27 (.slice (some ⟨bo, 0, none⟩) out.length co) (some (.int .i64 (j : Int))) none none).run Try.prog W = .ok (.slice (some ⟨bo, ob, none⟩) (out.length - j) (co - j)) W := fun W => by rw [hob]; exact isl_lo bo out.length j co hj1 hoc W
                  have hsl2 := fun W => isl_hi bo out.length j co (by omega) W
                  have hob2 : 0 < out.length - j → ob = j := fun h => by rw [hob, if_neg (by omega)]
                  clear h2 hob HUq
                  have bd' := (Below.refl wq.heap.size wq).drew
                  go_wp2_with fail
                  refine wp_region_held_drew (S := fun V => V.cell? ⟨xb, 1, none⟩ = some (.int .i64 s)) (by kernel_rfl) xq1 (fun hHeld => ?_)
                  refine tkJ 0 57 (.pointer (some ⟨xb, 1, none⟩)) hHeld rfl ?_
                  try simp only [Act.put, List.setIfInBounds_toArray, List.set_cons_zero, List.set_cons_succ]
                  refine tkJ 1 58 (.int .i64 s) hHeld rfl ?_ (by intro V hSw; have q := hSw; go_simp)
                  try simp only [Act.put, List.setIfInBounds_toArray, List.set_cons_zero, List.set_cons_succ]
                  refine tkJ 3 60 (.slice (some ⟨bo, 0, none⟩) out.length co) hHeld rfl ?_
                  try simp only [Act.put, List.setIfInBounds_toArray, List.set_cons_zero, List.set_cons_succ]
                  refine tkJ 4 61 (.int .i64 (j : Int)) hHeld rfl ?_
                  try simp only [Act.put, List.setIfInBounds_toArray, List.set_cons_zero, List.set_cons_succ]
                  refine tkJ 5 62 (.slice (some ⟨bo, ob, none⟩) (out.length - j) (co - j)) hHeld rfl ?_ (by intro V hSw; have h := hsl1 V; go_simp)
                  try simp only [Act.put, List.setIfInBounds_toArray, List.set_cons_zero, List.set_cons_succ]
                  refine wpAnyH_ready (rs := [2]) (by kernel_rfl) (by simp) ?_
                  refine AllReadyH.cons (o := { dst := some 59, op := _, type := _, pos := _, after := _, guard := _ }) rfl (fun KK hKK => ?_) AllReadyH.nil
                  go_simp
                  obtain ⟨wa, hwa⟩ : ∃ V, V = (wq.alloc (.cells #[.int .i64 s] 3)).drew := ⟨_, rfl⟩
                  rw [← hwa]
                  have ba : Below wq.heap.size wq wa := by rw [hwa]; exact ((Below.refl _ _).alloc (Nat.le_refl _) _).drew
                  have a1 : IR w.heap.size wa (.slice (some ⟨wq.heap.size, 0, none⟩) 1 1) [s] := by
                    have := IR.below (IR.new (w := wq) [s] szq (by simp)) (Below.drew (Below.refl _ _))
                    rw [hwa]
                    simpa [icl] using this
                  have hn1 : ∀ i u, (icl (out.drop j))[i]? = some u → wa.cell? ((⟨bo, ob, none⟩ : Addr).add i) = some u := fun i u hu => by
                    obtain ⟨hi, rfl⟩ := icl_some hu
                    rw [List.length_drop] at hi
                    rw [Addr.add_lit, ba.cell (p := ⟨bo, ob + i, none⟩) lbq, hob2 (by omega), HXq.out (j + i) (by omega)]
                    simp
                  have xa1 : wa.cell? ⟨xb, 1, none⟩ = some (.int .i64 s) := by rw [ba.cell (p := ⟨xb, 1, none⟩) lxq]; exact xq1
                  have zwa : w.heap.size ≤ wa.heap.size := by have := ba.size; omega
                  clear hHeld hwa
                  refine hKK.out _ _ xa1 (fun hHeld => ?_)
                  clear hKK KK
                  try simp only [Act.put, List.setIfInBounds_toArray, List.set_cons_zero, List.set_cons_succ]
                  refine wpAnyH_ready (rs := [6]) (by kernel_rfl) (by simp) ?_
                  refine AllReadyH.cons (o := { dst := some 63, op := _, type := _, pos := _, after := _, guard := _ }) rfl (fun KK hKK => ?_) AllReadyH.nil
                  rw [if_pos (by kernel_rfl)]
                  refine wp_append_own _ _ _ 27 rfl w.heap.size 3 i0 (.int .i64 0) 1 8 Try.underlying27 hi hz0 hz1' hz2 rfl (by decide) (.slice (some ⟨wq.heap.size, 0, none⟩) 1 1) 1 (icl [s]) rfl a1 ⟨bo, ob, none⟩ (out.length - j) (co - j) (icl (out.drop j)) rfl (by rw [icl_len, List.length_drop, Nat.mul_one]) hn1 (ints_oneCell .i64 _) (by unfold maxLen; omega) (by omega) zwa ?_
                  intro v5 w5 hown hgrow hnil
                  have n5 : v5 ≠ .slice none 0 0 := by first | exact hnil | exact fun e => by have := (hnil.1 e).1; simp at this
                  have I5 : IR w.heap.size w5 v5 ([s] ++ out.drop j) := by
                    unfold IR
                    rw [icl_append, List.length_append, List.length_singleton, List.length_drop]
                    exact hown
                  have B5 : Below wq.heap.size wq w5 := Below.grown ba hgrow ba.size (fun g hg => by simp [Value.ownBlock] at hg; omega)
                  have x5 : w5.cell? ⟨xb, 1, none⟩ = some (.int .i64 s) := by rw [B5.cell (p := ⟨xb, 1, none⟩) lxq]; exact xq1
                  obtain ⟨b5, c5, rfl, hc5, lb5, hx5⟩ := ir_parts I5 n5
                  have e5 : ([s] ++ out.drop j).length = out.length - j + 1 := by simp
                  rw [e5] at hc5 hx5 hown ⊢
                  have BW5 : Hid (Below w.heap.size w w5) := BWq.out.trans (B5.mono szq)
                  have HI5 : Hid (∀ i, i < out.length - j + 1 → w5.cell? ⟨b5, i, none⟩ = some (.int .i64 (([s] ++ out.drop j).getD i 0))) := hx5
                  have HX5 : Hid (∀ i, i < out.length → w5.cell? ⟨bo, i, none⟩ = some (.int .i64 (out.getD i 0))) := fun i hi => by rw [B5.cell (p := ⟨bo, i, none⟩) lbq]; exact HXq.out i hi
                  have HB5 : Hid (Below w0.heap.size w0 w5) := HBq.out.trans (B5.mono HBq.out.size)
                  have lbo5 : bo < w5.heap.size := Nat.lt_of_lt_of_le lbq B5.size
                  have sz5 := BW5.out.size
                  clear hown hgrow hnil n5 I5 B5 hx5 hsl1 a1 hn1 ba hHeld
                  refine hKK.out _ _ x5 (fun hHeld => ?_)
                  clear hKK KK
                  try simp only [Act.put, List.setIfInBounds_toArray, List.set_cons_zero, List.set_cons_succ]
                  refine tkJ 7 7 (.slice (some ⟨b5, 0, none⟩) (out.length - j + 1) c5) hHeld rfl ?_
                  try simp only [Act.put, List.setIfInBounds_toArray, List.set_cons_zero, List.set_cons_succ]
                  refine wpAnyH_done (by kernel_rfl) ?_ _
                  clear hHeld x5 xa1
                  have a2 : IR w5.heap.size (w5.alloc (.cells #[] 3)) (.slice (some ⟨w5.heap.size, 0, none⟩) 0 0) [] := by simpa [icl] using IR.new (w := w5) [] (Nat.le_refl w5.heap.size) (by simp)
                  have hn2 : ∀ i u, (icl (out.take j))[i]? = some u → (w5.alloc (.cells #[] 3)).cell? ((⟨bo, 0, none⟩ : Addr).add i) = some u := fun i u hu => by
                    obtain ⟨hi, rfl⟩ := icl_some hu
                    rw [List.length_take] at hi
                    rw [Addr.add_lit, Nat.zero_add, cell_new_old lbo5, HX5.out i (by omega)]
                    simp [show i < j by omega]
                  go_wp2_with (at_builtin; refine wpList_append_own _ rfl _ _ 27 rfl (w5.heap.size) 3 i0 (.int .i64 0) 1 8 Try.underlying27 hi hz0 hz1' hz2 rfl (by decide) (.slice (some ⟨w5.heap.size, 0, none⟩) 0 0) (0) (icl ([])) rfl (a2) ⟨bo, 0, none⟩ (j) (co) (icl (out.take j)) rfl (by rw [icl_len, List.length_take, Nat.min_eq_left hj1, Nat.mul_one]) (hn2) (ints_oneCell .i64 _) (by unfold maxLen; omega) (by omega) (by first | omega | (simp; done) | (simp; omega)) ?_)
                  intro v6 w6 hown hgrow hnil
                  have n6 : v6 ≠ .slice none 0 0 := by first | exact hnil | exact fun e => by have := (hnil.1 e).1; simp at this
                  have I6 : IR w5.heap.size w6 v6 (out.take j) := by
                    have := hown
                    unfold IR
                    rw [List.length_take, Nat.min_eq_left hj1]
                    simpa [show icl [] = [] from rfl] using this
                  have B6 : Below w5.heap.size w5 w6 := Below.grown ((Below.refl w5.heap.size w5).alloc (Nat.le_refl _) _) hgrow (by simp) (fun g hg => by simp [Value.ownBlock] at hg; omega)
                  have HI6 : Hid (IR w5.heap.size w6 v6 (out.take j)) := I6
                  have HN6 : Hid (v6 ≠ .slice none 0 0) := n6
                  have BW6 : Hid (Below w5.heap.size w5 w6) := B6
                  have hx6 : ∀ i, i < out.length - j + 1 → w6.cell? ⟨b5, i, none⟩ = some (.int .i64 (([s] ++ out.drop j).getD i 0)) := fun i hi => by rw [B6.cell (p := ⟨b5, i, none⟩) lb5]; exact HI5.out i hi
                  have HX6 : Hid (∀ i, i < out.length - j + 1 → w6.cell? ⟨b5, i, none⟩ = some (.int .i64 (([s] ++ out.drop j).getD i 0))) := hx6
                  have sz6 := B6.size
                  have lt6 : (out.take j).length = j := by rw [List.length_take, Nat.min_eq_left hj1]
                  clear hown hgrow hnil n6 I6 B6 HX5 HI5 hx6 hsl2 a2 hn2
                  have a3 : w6.ownsRow w5.heap.size 3 1 v6 j (icl (out.take j)) := by have := HI6.out; unfold IR at this; rw [lt6] at this; exact this
                  have hn3 : ∀ i u, (icl ([s] ++ out.drop j))[i]? = some u → w6.cell? ((⟨b5, 0, none⟩ : Addr).add i) = some u := fun i u hu => by
                    obtain ⟨hi, rfl⟩ := icl_some hu
                    rw [e5] at hi
                    rw [Addr.add_lit, Nat.zero_add]
                    exact HX6.out i hi
                  go_wp2_with (at_builtin; refine wpList_append_own _ rfl _ _ 27 rfl (w5.heap.size) 3 i0 (.int .i64 0) 1 8 Try.underlying27 hi hz0 hz1' hz2 rfl (by decide) (v6) (j) (icl (out.take j)) rfl (a3) ⟨b5, 0, none⟩ (out.length - j + 1) (c5) (icl ([s] ++ out.drop j)) rfl (by rw [icl_len, e5, Nat.mul_one]) (hn3) (ints_oneCell .i64 _) (by unfold maxLen; omega) (by omega) (by first | omega | (simp; done) | (simp; omega)) ?_)
                  intro v7 w7 hown hgrow hnil
                  have n7 : v7 ≠ .slice none 0 0 := by first | exact hnil | exact fun e => HN6.out (hnil.1 e).1
                  have I7 : IR w.heap.size w7 v7 (insS out s) := by
                    have h7 : IR w5.heap.size w7 v7 (out.take j ++ ([s] ++ out.drop j)) := by
                      unfold IR
                      rw [icl_append, List.length_append, e5, lt6]
                      exact hown
                    have e7 : insS out s = out.take j ++ ([s] ++ out.drop j) := by unfold insS; rw [← HJL.out]; rfl
                    rw [e7]
                    exact IR.mono h7 sz5
                  have B7 : Below w5.heap.size w5 w7 := BW6.out.grown hgrow sz6 (fun g hg => (World.ownsRow.lt HI6.out g hg).1)
                  have HI7 : Hid (IR w.heap.size w7 v7 (jmN y (k + 1))) := by show IR _ _ _ _; rw [HINS.out]; exact I7
                  have HN7 : Hid (v7 ≠ .slice none 0 0) := n7
                  have HB7 : Hid (Below w0.heap.size w0 w7) := HB5.out.trans (B7.mono HB5.out.size)
                  clear hown hgrow hnil n7 I7 B7 HI6 HN6 HX6
                  go_wp2
                  go_roundw
                  case rel => exact ⟨k + 1, _, by omega, rfl, by go_num, HI7.out, HN7.out, HB7.out⟩
                  case measure => simp [intOf]; omega
    · have hge : (n : Int) ≤ (k : Int) := by omega
      obtain rfl : k = n := by omega
      have HU : Hid (OwnF w.heap.size wr.heap.size 3 wr u (jmN y k).length (jmN y k).length (fun i => .int .i64 ((jmN y k).getD i 0))) := ir_own hU
      clear hU hne hF
      go_wp2
      go_ret
      exact ⟨_, rfl, HU.out, BW.out⟩
end Go.Proofs.Ytpjliclgjplebaa
