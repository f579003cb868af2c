/- The program's wayOf, and the search of a serial among steps. -/
import Derived.Test.YtmckcnmlhgpnhaaGreatKCoJ
import Derived.Test.YtmckcnmlhgpnhaaGreatKPutR
import Derived.Test.YtmckcnmlhgpnhaaGreatKCoK
import Derived.Test.YtmckcnmlhgpnhaaGreatKAllA
namespace Go.Proofs.YtmckcnmlhgpnhaaGreat
set_option maxRecDepth 20000
open Go.RowKit Go.Maps
set_option linter.unusedSimpArgs false
set_option linter.unusedVariables false

set_option maxHeartbeats 4000000 in
theorem wayOf_at (R : List (Nat × Int × Int)) (k : Nat) (hk : k < R.length) (hWF : WfS R) (hRl : R.length ≤ 1048576) (B : Nat) (v : Value) (w : World) (hO : w.ownsRow B 124 3 v R.length (cC R)) :
    Calls Tryz.prog 89 #[v, .int .i64 (k : Int)] w fun e w' => ∃ u, e = .returned u ∧ OwnF w.heap.size w'.heap.size 3 w' u (wayS R k).length (wayS R k).length (fun i => .int .i64 ((wayS R k).getD i 0)) ∧ Below w.heap.size w w' := by
  obtain ⟨i0, hi, hz0, hz1', hz2⟩ := info_parts info3
  obtain ⟨g, cap, rfl, _, lg, hgc⟩ := co_item hO hk
  have HGC : Hid (∀ j, j < R.length → w.cell? ⟨g, j * 3 + 1, none⟩ = some (.int .i64 (R.getD j (0, 0, 0)).2.2) ∧ w.cell? ⟨g, j * 3 + 2, none⟩ = some (.int .i64 (R.getD j (0, 0, 0)).2.1)) := fun j hj => (hgc j hj).2
  have HWF : Hid (WfS R) := hWF
  have hRl' : (R.length : Int) ≤ 1048576 := by omega
  clear hO hgc hWF
  go_enter Tryz.func89, Tryz.ntmps89
  go_wp2_with fail
  go_loopw [5, 6] (fun u5 u6 wr => ∃ (u : Value) (kk : Int) (d : Nat) (acc : List Int), u = u5 ∧ u6 = .int .i64 kk ∧ -1 ≤ kk ∧ kk < d ∧ kk < R.length ∧ acc.length + (kk + 1) ≤ R.length ∧ Hid (wayW R d kk acc.reverse = wayS R k) ∧ IR w.heap.size wr u acc ∧ Below w.heap.size w wr) (fun _ u6 _ => (intOf u6 + 1).toNat)
  case atStart => exact ⟨_, (k : Int), k + 1, [], rfl, rfl, by omega, by omega, by omega, by simp; omega, rfl, IR.nil _ _, Below.refl _ _⟩
  case round =>
    obtain ⟨u, kk, d, acc, rfl, rfl, h1, hd, hkR, hal, HWY, hU, hF⟩ := hrel
    by_cases h0 : 0 ≤ kk
    · obtain ⟨kn, rfl⟩ : ∃ kn : Nat, kk = kn := ⟨kk.toNat, by omega⟩
      obtain ⟨d', rfl⟩ : ∃ e, d = e + 1 := ⟨d - 1, by omega⟩
      have hkn : kn < R.length := by omega
      have f1 : wr.cell? ⟨g, kn * 3 + 1, none⟩ = some (.int .i64 (R.getD kn (0, 0, 0)).2.2) := by rw [hF.cell (p := ⟨g, kn * 3 + 1, none⟩) lg]; exact (HGC.out kn hkn).1
      have f2 : wr.cell? ⟨g, kn * 3 + 2, none⟩ = some (.int .i64 (R.getD kn (0, 0, 0)).2.1) := by rw [hF.cell (p := ⟨g, kn * 3 + 2, none⟩) lg]; exact (HGC.out kn hkn).2
      have hwf := HWF.out kn hkn
      have hwy : wayW R d' (R.getD kn (0, 0, 0)).2.1 ((R.getD kn (0, 0, 0)).2.2 :: acc.reverse) = wayS R k := by
        have := HWY.out
        simp only [wayW, if_pos h0, Int.toNat_natCast] at this
        exact this
      have HWY2 : Hid (wayW R d' (R.getD kn (0, 0, 0)).2.1 (acc ++ [(R.getD kn (0, 0, 0)).2.2]).reverse = wayS R k) := by show _ = _; rw [List.reverse_append]; exact hwy
      generalize (R.getD kn (0, 0, 0)).2.1 = fr at f2 hwf HWY2
      generalize (R.getD kn (0, 0, 0)).2.2 = sl at f1 HWY2
      have hr1 : -1 ≤ fr ∧ fr < kn := by omega
      have hne : ((kn : Int) != -1) = true := by first | (simp; done) | (simp; omega)
      have a1 : (wr.alloc (.cells #[.int .i64 sl] 3)).ownsRow w.heap.size 3 1 u acc.length (icl acc) := IR.alloc hU _
      have HU : Hid (IR w.heap.size wr u acc) := hU
      have HF : Hid (Below w.heap.size w wr) := hF
      have zr := hF.size
      have lgr : g < wr.heap.size := by omega
      have hla : acc.length ≤ 1048576 := by omega
      clear hwy HWY hU hF hwf
      go_wp2_with (at_builtin; refine wpList_append_own _ rfl _ _ 64 rfl w.heap.size 3 i0 (.int .i64 0) 1 8 Tryz.underlying64 hi hz0 hz1' hz2 rfl (by decide) u acc.length (icl acc) rfl a1 ⟨wr.heap.size, 0, none⟩ 1 1 [.int .i64 sl] rfl rfl (cell_one_new _ _ _) (ints_oneCell .i64 [sl]) (by unfold maxLen; omega) (by omega) (by simp; omega) ?_)
      intro v6 w6 hown hgrow hnil
      have I6 : Hid (IR w.heap.size w6 v6 (acc ++ [sl])) := by
        show IR _ _ _ _
        unfold IR
        rw [icl_snoc, List.length_append]
        exact hown
      have B6 : Hid (Below w.heap.size w w6) := (HF.out.alloc zr _).grown hgrow (by simp; omega) (fun j hj => (World.ownsRow.lt HU.out j hj).1)
      have b6 : (wr.alloc (.cells #[.int .i64 sl] 3)).grownBy w6 u.ownBlock := hgrow
      have f3 : w6.cell? ⟨g, kn * 3 + 2, none⟩ = some (.int .i64 fr) := by
        rw [World.cell?_of_block (w := wr.alloc (.cells #[.int .i64 sl] 3)) (hgrow.block g (by simp; omega) (fun e => by have := (World.ownsRow.lt HU.out g e.symm).1; omega)), cell_new_old lgr]
        exact f2
      clear hown hgrow hnil a1 f1 f2 HF HU b6
      go_wp2
      go_roundw
      case rel => exact ⟨_, fr, d', acc ++ [sl], rfl, rfl, hr1.1, by omega, by omega, by simp only [List.length_append, List.length_cons, List.length_nil]; omega, HWY2, I6.out, B6.out⟩
      case measure => simp [intOf]; omega
    · obtain rfl : kk = -1 := by omega
      have hacc : acc.reverse = wayS R k := by have := HWY.out; rw [wayW_neg h0] at this; exact this
      have HAC : Hid (acc.reverse = wayS R k) := hacc
      have hla : acc.length ≤ 1048576 := by omega
      have BW : Hid (Below w.heap.size w wr) := hF
      rcases hU with ⟨e1, ⟨rfl, h0⟩ | ⟨g2, cap2, cur, rfl, hg⟩⟩
      · obtain rfl : acc = [] := List.eq_nil_of_length_eq_zero h0
        have HK0 : Hid (wayS R k = []) := hacc.symm
        clear e1 h0 hacc HWY hF
        go_wp2_with (go_at_call 123; refine (Tryz.slices_Reverse_int_empty none 0 _).mono ?_; rintro e w6 ⟨rfl, rfl⟩)
        go_ret
        exact ⟨_, rfl, by rw [HK0.out]; exact ⟨none, 0, rfl, .inl rfl⟩, BW.out⟩
      · have hI : IR w.heap.size wr (.slice (some ⟨g2, 0, none⟩) acc.length cap2) acc := ⟨e1, .inr ⟨g2, cap2, cur, rfl, hg⟩⟩
        obtain ⟨hH, lg2, hBg⟩ := ir_holds hI
        have HI : Hid (IR w.heap.size wr (.slice (some ⟨g2, 0, none⟩) acc.length cap2) acc) := hI
        clear e1 hg hI hacc HWY hF
        go_wp2_with fail
        refine (Tryz.slices_Reverse_int g2 0 cap2 acc _ hH (by omega)).mono ?_
        rintro e w6 ⟨rfl, n6, hw6⟩
        obtain ⟨i6, b6⟩ := ir_put (n := n6) (os := #[]) HI.out (ys := acc.reverse) (List.length_reverse ..)
        rw [Go.Sort.grow_empty, ← hw6] at i6 b6
        rw [HAC.out] at i6
        have HLL : (wayS R k).length = acc.length := by rw [← HAC.out, List.length_reverse]
        have I6 : Hid (OwnF w.heap.size w6.heap.size 3 w6 (.slice (some ⟨g2, 0, none⟩) acc.length cap2) (wayS R k).length (wayS R k).length (fun i => .int .i64 ((wayS R k).getD i 0))) := by
          have := ir_own i6
          rw [HLL] at this ⊢
          exact this
        have B6 : Hid (Below w.heap.size w w6) := BW.out.trans (b6.mono (by have := BW.out.size; omega))
        clear i6 b6 hw6 hH HI HLL
        go_wp2
        go_ret
        exact ⟨_, rfl, I6.out, B6.out⟩
set_option maxHeartbeats 4000000 in
theorem wayIs_at (b off cw : Nat) (ws : List Int) (semi toh top : Int) (cyc : Bool) (scan old copied serial : Int) (ar : Option Addr) (cr : Nat) (rs : List (Int × Int)) (H Hs p : Nat) (sl fr x0 : Int) (w : World) (lH : H < w.heap.size) (ka : ∀ i, w.cell? ⟨H, i, none⟩ = (#[.slice (some ⟨b, off, none⟩) ws.length cw, .int .i64 semi, .int .i64 toh, .int .i64 top, .bool cyc, .int .i64 scan, .int .i64 old, .int .i64 copied, .int .i64 serial, .slice ar rs.length cr] : Array Value)[i]?) (lHs : Hs < w.heap.size) (kx : w.cell? ⟨Hs, 0, none⟩ = some (.int .i64 x0)) (hs : Sl w (.slice (some ⟨b, off, none⟩) ws.length cw) ws) (hn : ws.length ≤ 1048576) (hw : Words64 ws) (hp : p < ws.length) :
    Calls Tryz.prog 88 #[.agg #[.int .i64 (p : Int), .int .i64 sl, .int .i64 fr], .pointer (some ⟨H, 0, none⟩), .pointer (some ⟨Hs, 0, none⟩)] w fun e w' => e = .returned (.bool (rdN (wordAt ws p) == x0)) ∧ Below w.heap.size w w' := by
  have fz := field_serial
  obtain ⟨s, hsq⟩ : ∃ s, s = rdN (wordAt ws p) := ⟨_, rfl⟩
  have HHD : Hid (∀ W, Below w.heap.size w W → Calls Tryz.prog 81 #[.agg #[.slice (some ⟨b, off, none⟩) ws.length cw, .int .i64 semi, .int .i64 toh, .int .i64 top, .bool cyc, .int .i64 scan, .int .i64 old, .int .i64 copied, .int .i64 serial, .slice ar rs.length cr], .int .i64 (p : Int)] W fun e w' => e = .returned (.agg #[.int .i64 (rdK (wordAt ws p)), .int .i64 (rdS (wordAt ws p)), .int .i64 s]) ∧ Below W.heap.size W w') := fun W hW => by rw [hsq]; exact headAt_at _ cw ws semi toh top cyc scan old copied serial _ cr rs (p : Int) p W rfl (hs.below hW) hn hw hp
  obtain ⟨w0, hw0⟩ : ∃ V, V = w.alloc (.cells #[.int .i64 (p : Int), .int .i64 sl, .int .i64 fr] 124) := ⟨_, rfl⟩
  have B0 : Below w.heap.size w w0 := by rw [hw0]; exact (Below.refl _ _).alloc (Nat.le_refl _) _
  have z0 : w.heap.size < w0.heap.size := by rw [hw0]; simp
  have c0 : w0.cell? ⟨w.heap.size, 0, none⟩ = some (.int .i64 (p : Int)) := by rw [hw0]; simp [go_sem]
  have k0 := has_below ka B0 lH
  have KP : ∀ V, Below w0.heap.size w0 V → (Below w0.heap.size w0 V ∧ (∀ i, V.cell? ⟨H, i, none⟩ = (#[.slice (some ⟨b, off, none⟩) ws.length cw, .int .i64 semi, .int .i64 toh, .int .i64 top, .bool cyc, .int .i64 scan, .int .i64 old, .int .i64 copied, .int .i64 serial, .slice ar rs.length cr] : Array Value)[i]?) ∧ V.cell? ⟨Hs, 0, none⟩ = some (.int .i64 x0) ∧ V.cell? ⟨w.heap.size, 0, none⟩ = some (.int .i64 (p : Int))) := fun V hV => ⟨hV, has_below k0 hV (by omega), by rw [hV.cell (p := ⟨Hs, 0, none⟩) (by dsimp only; omega), B0.cell (p := ⟨Hs, 0, none⟩) lHs]; exact kx, by rw [hV.cell (p := ⟨w.heap.size, 0, none⟩) z0]; exact c0⟩
  have bd' := (Below.refl w0.heap.size w0).drew
  have HB0 : Hid (Below w.heap.size w w0) := B0
  rw [← hsq]
  clear ka kx hs c0 k0 hsq B0
  go_enter Tryz.func88, Tryz.ntmps88
  go_upto_region 1 with fail
  rw [← hw0]
  clear hw0
  go_region_held3 (fun V => Below w0.heap.size w0 V ∧ (∀ i, V.cell? ⟨H, i, none⟩ = (#[.slice (some ⟨b, off, none⟩) ws.length cw, .int .i64 semi, .int .i64 toh, .int .i64 top, .bool cyc, .int .i64 scan, .int .i64 old, .int .i64 copied, .int .i64 serial, .slice ar rs.length cr] : Array Value)[i]?) ∧ V.cell? ⟨Hs, 0, none⟩ = some (.int .i64 x0) ∧ V.cell? ⟨w.heap.size, 0, none⟩ = some (.int .i64 (p : Int))) (first | assumption | exact KP _ bd' | exact KP _ (by assumption)) (first | (go_at_call 81; refine (HHD.out _ (below_next HB0.out (And.left (by assumption)))).mono ?_; rintro e wc ⟨rfl, bb⟩; have hBl := below_next (w := w0) (And.left (by assumption)) bb; clear bb))
  have BE : Hid (Below w.heap.size w wc) := below_next HB0.out hBl
  clear hBl KP bd' HHD
  go_wp2
  go_ret
  exact ⟨rfl, BE.out⟩
set_option maxHeartbeats 4000000 in
theorem idx_at (ws : List Int) (R : List (Nat × Int × Int)) (x0 : Int) (hRl : R.length ≤ 1048576) (B : Nat) (v : Value) (lb : Array Value) (w : World) (hO : w.ownsRow B 124 3 v R.length (cC R)) (en : ∀ args w, (callFunc 88 args).run Tryz.prog w = .ok (.enter 88 args) w)
    (hP : ∀ W (j : Nat) (sl fr : Int), j < R.length → Below w.heap.size w W → Calls Tryz.prog 88 (#[.agg #[.int .i64 (((plS R).getD j 0 : Nat) : Int), .int .i64 sl, .int .i64 fr]] ++ lb) W fun e w' => e = .returned (.bool (rdN (wordAt ws ((plS R).getD j 0)) == x0)) ∧ Below W.heap.size W w') :
    Calls Tryz.prog 87 #[v, .func (.func 88) #[] lb] w fun e w' => ∃ q : Int, e = .returned (.int .i64 q) ∧ ((∃ k : Nat, k < R.length ∧ q = (k : Int) ∧ rdN (wordAt ws ((plS R).getD k 0)) = x0 ∧ ∀ j, j < k → rdN (wordAt ws ((plS R).getD j 0)) ≠ x0) ∨ (q = -1 ∧ ∀ j, j < R.length → rdN (wordAt ws ((plS R).getD j 0)) ≠ x0)) ∧ Below w.heap.size w w' := by
  have HO : Hid (w.ownsRow B 124 3 v R.length (cC R)) := hO
  obtain ⟨a1, c1, rfl⟩ := co_form hO
  have HP : Hid (∀ W (j : Nat) (sl fr : Int), j < R.length → Below w.heap.size w W → Calls Tryz.prog 88 (#[.agg #[.int .i64 (((plS R).getD j 0 : Nat) : Int), .int .i64 sl, .int .i64 fr]] ++ lb) W fun e w' => e = .returned (.bool (rdN (wordAt ws ((plS R).getD j 0)) == x0)) ∧ Below W.heap.size W w') := hP
  have hRl' : (R.length : Int) ≤ 1048576 := by omega
  clear hO hP
  go_enter Tryz.func87, Tryz.ntmps87
  go_wp2_with fail
  go_loopw [5, 8] (fun _ u8 wr => ∃ k : Nat, k ≤ R.length ∧ u8 = .int .i64 k ∧ Hid (∀ j, j < k → rdN (wordAt ws ((plS R).getD j 0)) ≠ x0) ∧ Below w.heap.size w wr) (fun _ u8 _ => R.length - (intOf u8).toNat)
  case atStart => exact ⟨0, Nat.zero_le _, rfl, fun j hj => by omega, Below.refl _ _⟩
  case round =>
    obtain ⟨k, hk, rfl, HNO, hF⟩ := hrel
    by_cases hlt : k < R.length
    · have hlt' : (k : Int) < (R.length : Int) := by omega
      obtain ⟨g, cap, hv, _, lg, hgc⟩ := co_item HO.out hlt
      simp only [Value.slice.injEq] at hv
      obtain ⟨rfl, _, rfl⟩ := hv
      obtain ⟨c0, c1', c2⟩ := hgc k hlt
      have x0' : wr.cell? ⟨g, k * 3, none⟩ = some (.int .i64 (((plS R).getD k 0 : Nat) : Int)) := by rw [hF.cell (p := ⟨g, k * 3, none⟩) lg]; exact c0
      have x1' : wr.cell? ⟨g, k * 3 + 1, none⟩ = some (.int .i64 (R.getD k (0, 0, 0)).2.2) := by rw [hF.cell (p := ⟨g, k * 3 + 1, none⟩) lg]; exact c1'
      have x2' : wr.cell? ⟨g, k * 3 + 2, none⟩ = some (.int .i64 (R.getD k (0, 0, 0)).2.1) := by rw [hF.cell (p := ⟨g, k * 3 + 2, none⟩) lg]; exact c2
      generalize (R.getD k (0, 0, 0)).2.2 = q1 at x1'
      generalize (R.getD k (0, 0, 0)).2.1 = q2 at x2'
      have HPk := HP.out wr k q1 q2 hlt hF
      obtain ⟨s, hsq⟩ : ∃ s, s = rdN (wordAt ws ((plS R).getD k 0)) := ⟨_, rfl⟩
      have HSQ : Hid (s = rdN (wordAt ws ((plS R).getD k 0))) := hsq
      rw [← hsq] at HPk
      have HPK : Hid (Calls Tryz.prog 88 (#[.agg #[.int .i64 (((plS R).getD k 0 : Nat) : Int), .int .i64 q1, .int .i64 q2]] ++ lb) wr fun e w' => e = .returned (.bool (s == x0)) ∧ Below wr.heap.size wr w') := HPk
      have HF : Hid (Below w.heap.size w wr) := hF
      generalize (plS R).getD k 0 = pk at x0' HPK
      clear hgc c0 c1' c2 hsq HPk hF
      by_cases hse : s = x0
      · have HHIT : Hid (rdN (wordAt ws ((plS R).getD k 0)) = x0) := by show _ = _; rw [← HSQ.out]; exact hse
        have hb : (s == x0) = true := by simp [hse]
        rw [hb] at HPK
        clear hse hb HSQ
        go_wp2_with (go_at_fn 88; refine HPK.out.mono ?_; rintro e w5 ⟨rfl, b5⟩)
        go_ret
        exact ⟨_, rfl, .inl ⟨k, hlt, rfl, HHIT.out, HNO.out⟩, HF.out.trans (b5.mono HF.out.size)⟩
      · have HNO2 : Hid (∀ j, j < k + 1 → rdN (wordAt ws ((plS R).getD j 0)) ≠ x0) := fun j hj => by
          by_cases e : j < k
          · exact HNO.out j e
          · obtain rfl : j = k := by omega
            exact fun e2 => hse (HSQ.out.trans e2)
        have hb : (s == x0) = false := by simp [hse]
        rw [hb] at HPK
        clear hse hb HSQ HNO
        go_wp2_with (go_at_fn 88; refine HPK.out.mono ?_; rintro e w5 ⟨rfl, b5⟩)
        go_roundw
        case rel => exact ⟨k + 1, by omega, by go_num, HNO2, HF.out.trans (b5.mono HF.out.size)⟩
        case measure => simp [intOf]; omega
    · have hge : (R.length : Int) ≤ (k : Int) := by omega
      have HMISS : Hid (∀ j, j < R.length → rdN (wordAt ws ((plS R).getD j 0)) ≠ x0) := fun j hj => HNO.out j (by omega)
      have HF : Hid (Below w.heap.size w wr) := hF
      clear hF HNO
      go_wp2
      go_ret
      exact ⟨_, rfl, .inr ⟨rfl, HMISS.out⟩, HF.out⟩
end Go.Proofs.YtmckcnmlhgpnhaaGreat
