/- The program's Jumps. -/
import Derived.Test.YtpjliclgjplebaaKJmP
import Derived.Test.YtpjliclgjplebaaKPutR
import Derived.Test.YtpjliclgjplebaaKRowF
import Derived.Laws.MakeOwn
import Derived.Deep.CutRange
import Derived.WalkKit
import Derived.WalkSpells
import Derived.WalkLawsBesides
import Derived.Below
import Derived.Outline
import Derived.Deep.Light
import Derived.Deep.OwnRows
import Derived.Deep.QuietTactic
import Derived.BigQuiet
import Derived.Deep.RegionWith
import Derived.WalkSmall
namespace Go.Proofs.Ytpjliclgjplebaa
set_option maxRecDepth 20000
open Go.RowKit Go.Maps
set_option linter.unusedSimpArgs false
set_option linter.unusedVariables false

theorem jumps_yes (op s : Int) (w : World) (h : isJ op) : Calls Try.prog 20 #[.agg #[.int .i64 op, .int .i64 s]] w fun e w' => e = .returned (.bool true) ∧ Below w.heap.size w w' := by
  obtain ⟨h1, h2⟩ := h
  have hc : op = 18 ∨ op = 19 ∨ op = 20 ∨ op = 21 := by omega
  clear h1 h2
  rcases hc with rfl | rfl | rfl | rfl
  all_goals
    go_enter Try.func20, Try.ntmps20
    go_wp2
    go_ret
    exact ⟨rfl, below_first (Below.refl _ _)⟩
theorem jumps_no (op s : Int) (w : World) (h : ¬ isJ op) : Calls Try.prog 20 #[.agg #[.int .i64 op, .int .i64 s]] w fun e w' => e = .returned (.bool false) ∧ Below w.heap.size w w' := by
  have h1 : (op == 18) = false := by rw [beq_eq_false_iff_ne]; rintro rfl; exact h ⟨by omega, by omega⟩
  have h2 : (op == 19) = false := by rw [beq_eq_false_iff_ne]; rintro rfl; exact h ⟨by omega, by omega⟩
  have h3 : (op == 20) = false := by rw [beq_eq_false_iff_ne]; rintro rfl; exact h ⟨by omega, by omega⟩
  have h4 : (op == 21) = false := by rw [beq_eq_false_iff_ne]; rintro rfl; exact h ⟨by omega, by omega⟩
  clear h
  go_enter Try.func20, Try.ntmps20
  go_wp2
  go_ret
  exact ⟨rfl, below_first (Below.refl _ _)⟩
theorem grow_none (w : World) : Go.Sort.grow w #[] = w := by
  unfold Go.Sort.grow
  cases w
  simp
set_option maxHeartbeats 8000000 in
theorem implJumps_at (pa sl : Int) (au : Option Addr) (nu cu : Nat) (ac : Option Addr) (n cc : Nat) (y : Nat → Int) (T : Nat) (w : World) (hs : SlF T w (.slice ac n cc) n (2 * n) (fun i => .int .i64 (y i))) (hn : n ≤ 1048576) :
    Calls Try.prog 8 #[.agg #[.int .i64 pa, .int .i64 sl, .slice au nu cu, .slice ac n cc]] w fun e w' => ∃ v, e = .returned v ∧ OwnF w.heap.size w'.heap.size 3 w' v (jmN y n).length (jmN y n).length (fun i => .int .i64 ((jmN y n).getD i 0)) ∧ Below w.heap.size w w' := by
  obtain ⟨i0, hi, hz0, hz1', hz2⟩ := info_parts infoInt
  have hn' : (n : Int) ≤ 1048576 := by omega
  have HS : Hid (SlF w.heap.size w (.slice ac n cc) n (2 * n) (fun i => .int .i64 (y i))) := hs.here
  clear hs
  go_enter Try.func8, Try.ntmps8
  go_upto_region 2 with fail
  obtain ⟨w0, hw0⟩ : ∃ V, V = w.alloc (.cells #[.int .i64 pa, .int .i64 sl, .slice au nu cu, .slice ac n cc] 32) := ⟨_, rfl⟩
  rw [← hw0]
  have B0 : Hid (Below w.heap.size w w0) := by rw [hw0]; exact (Below.refl _ _).alloc (Nat.le_refl _) _
  have k0 : w0.cell? ⟨w.heap.size, 3, none⟩ = some (.slice ac n cc) := by rw [hw0]; simp [go_sem]
  have z0 : w.heap.size < w0.heap.size := by rw [hw0]; simp
  clear hw0
  go_wp2_with fail
  clear k0
  go_loopw [3, 5, 9] (fun v _ i wr => ∃ (k : Nat) (u : Value), k ≤ n ∧ u = v ∧ i = .int .i64 k ∧ IR w0.heap.size wr u (jmL y k) ∧ Below w0.heap.size w0 wr) (fun _ _ i _ => n - (intOf i).toNat)
  case atStart => exact ⟨0, _, Nat.zero_le _, rfl, rfl, IR.nil _ _, Below.refl _ _⟩
  case round =>
    obtain ⟨k, u, hk, rfl, rfl, hU, hF⟩ := hrel
    have BW : Hid (Below w.heap.size w wr) := B0.out.trans (hF.mono (by omega))
    have zr := hF.size
    by_cases hlt : k < n
    · have hlt' : (k : Int) < (n : Int) := by omega
      obtain ⟨br, offr, cap', hv, _, lbr, hcr⟩ := HS.out.parts (k := 0) (by omega)
      simp only [Value.slice.injEq] at hv
      obtain ⟨rfl, _, rfl⟩ := hv
      have x0 : wr.cell? ⟨br, offr + k * 2, none⟩ = some (.int .i64 (y (2 * k))) := by rw [BW.out.cell (p := ⟨br, offr + k * 2, none⟩) lbr, Nat.mul_comm]; exact hcr (2 * k) (by omega)
      have x1 : wr.cell? ⟨br, offr + k * 2 + 1, none⟩ = some (.int .i64 (y (2 * k + 1))) := by rw [BW.out.cell (p := ⟨br, offr + k * 2 + 1, none⟩) lbr, Nat.mul_comm]; exact hcr (2 * k + 1) (by omega)
      have HJ : Hid (jmL y (k + 1) = if y (2 * k) < 18 ∨ 21 < y (2 * k) then jmL y k else jmL y k ++ [y (2 * k + 1)]) := by show _ = _; rfl
      have hol : (jmL y k).length ≤ 1048576 := by have := jmL_len y k; omega
      obtain ⟨out, hout⟩ : ∃ o, o = jmL y k := ⟨_, rfl⟩
      rw [← hout] at hU HJ hol
      generalize y (2 * k) = op at x0 HJ
      generalize y (2 * k + 1) = s at x1 HJ
      obtain ⟨wx, hwx⟩ : ∃ V, V = wr.alloc (.cells #[.int .i64 op, .int .i64 s] 42) := ⟨_, rfl⟩
      obtain ⟨xb, hxb⟩ : ∃ b, b = wr.heap.size := ⟨_, rfl⟩
      have bc : Below wr.heap.size wr wx := by rw [hwx]; exact (Below.refl _ _).alloc (Nat.le_refl _) _
      have xc0 : wx.cell? ⟨xb, 0, none⟩ = some (.int .i64 op) := by rw [hwx, hxb]; simp [go_sem]
      have xc1 : wx.cell? ⟨xb, 1, none⟩ = some (.int .i64 s) := by rw [hwx, hxb]; simp [go_sem]
      have lxb : xb < wx.heap.size := by rw [hwx, hxb]; simp
      have HUc : Hid (IR w0.heap.size wx u out) := hU.below bc
      have HBc : Hid (Below w0.heap.size w0 wx) := hF.trans (bc.mono zr)
      have HWX : Hid (wx = wr.alloc (.cells #[.int .i64 op, .int .i64 s] 42)) := hwx
      have HXB : Hid (xb = wr.heap.size) := hxb
      have zx : w0.heap.size ≤ wx.heap.size := HBc.out.size
      clear hcr hU hF hout BW bc hwx hxb
      go_upto_region 5 with fail
      rw [← HWX.out, ← HXB.out]
      clear x0 x1 HWX HXB
      by_cases ho : op < 18 ∨ 21 < op
      · have hno : ¬ isJ op := by unfold isJ; omega
        have HU1 : Hid (IR w0.heap.size wx u (jmL y (k + 1))) := by show IR _ _ _ _; rw [HJ.out, if_pos ho]; exact HUc.out
        go_wp2_with (go_at_call 20; refine (jumps_no op s _ hno).mono ?_; rintro e w3 ⟨rfl, b3⟩)
        go_roundw
        case rel => exact ⟨k + 1, _, by omega, rfl, by go_num, HU1.out.below b3, HBc.out.trans (b3.mono zx)⟩
        case measure => simp [intOf]; omega
      · have hyes : isJ op := by unfold isJ; omega
        have HJ2 : Hid (jmL y (k + 1) = out ++ [s]) := by show _ = _; rw [HJ.out, if_neg ho]
        go_upto_region 6 with (go_at_call 20; refine (jumps_yes op s _ hyes).mono ?_; rintro e w5 ⟨rfl, b5⟩)
        have HU5 : Hid (IR w0.heap.size w5 u out) := HUc.out.below b5
        have HF5 : Hid (Below w0.heap.size w0 w5) := HBc.out.trans (b5.mono zx)
        have z5 : w0.heap.size ≤ w5.heap.size := HF5.out.size
        have x5 : w5.cell? ⟨xb, 1, none⟩ = some (.int .i64 s) := by rw [b5.cell (p := ⟨xb, 1, none⟩) lxb]; exact xc1
        have a1 : (w5.alloc (.cells #[.int .i64 s] 3)).ownsRow w0.heap.size 3 1 u out.length (icl out) := IR.alloc HU5.out _
        clear b5 xc0 xc1 HUc HBc HJ
        go_wp2_with (at_builtin; refine wpList_append_own _ rfl _ _ 27 rfl w0.heap.size 3 i0 (.int .i64 0) 1 8 Try.underlying27 hi hz0 hz1' hz2 rfl (by decide) u out.length (icl out) rfl a1 ⟨w5.heap.size, 0, none⟩ 1 1 [.int .i64 s] rfl rfl (cell_one_new _ _ _) (ints_oneCell .i64 [s]) (by unfold maxLen; omega) (by omega) (by simp; omega) ?_)
        intro v3 w3 hown hgrow hnil
        have I3 : Hid (IR w0.heap.size w3 v3 (jmL y (k + 1))) := by
          show IR _ _ _ _
          rw [HJ2.out]
          unfold IR
          rw [icl_snoc, List.length_append]
          exact hown
        have B3 : Hid (Below w0.heap.size w0 w3) := (HF5.out.alloc z5 _).grown hgrow (by simp; omega) (fun g hg => (World.ownsRow.lt HU5.out g hg).1)
        clear hown hgrow hnil a1 HU5 HF5
        go_wp2
        go_roundw
        case rel => exact ⟨k + 1, _, by omega, rfl, by go_num, I3.out, B3.out⟩
        case measure => simp [intOf]; omega
    · have hge : (n : Int) ≤ (k : Int) := by omega
      obtain rfl : k = n := by omega
      have HSO : Hid (Lib.compact ((jmL y k).mergeSort fun x y => decide (x ≤ y)) = jmN y k) := jm_sorted y k
      have HNI : Hid (jmL y k = [] → jmN y k = []) := jmN_nil
      have hsn : (jmL y k).length ≤ 1048576 := by have := jmL_len y k; omega
      obtain ⟨xs, hxs⟩ : ∃ xs, xs = jmL y k := ⟨_, rfl⟩
      rw [← hxs] at hU HSO HNI hsn
      clear hxs hF
      rcases hU with ⟨e1, ⟨rfl, h0⟩ | ⟨g, cap, cur, rfl, hg⟩⟩
      · obtain rfl : xs = [] := List.eq_nil_of_length_eq_zero h0
        have HK0 : Hid (jmN y k = []) := HNI.out rfl
        clear e1 h0
        go_wp2_with (first | (go_at_call 21; refine (Try.slices_Sort_int_none none 0 _).mono ?_; rintro e w6 ⟨rfl, rfl⟩) | (go_at_call 22; refine (Try.slices_Compact_int_empty none 0 _).mono ?_; rintro e w7 ⟨rfl, rfl⟩))
        go_ret
        exact ⟨_, rfl, by rw [HK0.out]; exact ⟨none, 0, rfl, .inl rfl⟩, BW.out⟩
      · have hI : IR w0.heap.size wr (.slice (some ⟨g, 0, none⟩) xs.length cap) xs := ⟨e1, .inr ⟨g, cap, cur, rfl, hg⟩⟩
        obtain ⟨hH, lg, hBg⟩ := ir_holds hI
        have HI : Hid (IR w0.heap.size wr (.slice (some ⟨g, 0, none⟩) xs.length cap) xs) := hI
        have hcap : xs.length ≤ cap := by obtain ⟨_, _, hq, _⟩ := hg; omega
        clear e1 hg hI
        go_wp2_with fail
        refine (Try.slices_Sort_int g 0 cap xs _ hH lg (by omega)).mono ?_
        rintro e w6 ⟨rfl, n6, os6, hw6⟩
        obtain ⟨zs, hzs⟩ : ∃ zs, zs = xs.mergeSort (fun x y => decide (x ≤ y)) := ⟨_, rfl⟩
        have hzl : zs.length = xs.length := by rw [hzs]; exact List.length_mergeSort ..
        obtain ⟨i6, b6⟩ := ir_put (n := n6) (os := os6) HI.out (ys := xs.mergeSort (fun x y => decide (x ≤ y))) (List.length_mergeSort ..)
        rw [← hw6, ← hzs] at i6
        rw [← hw6] at b6
        have HSZ : Hid (Lib.compact zs = jmN y k) := by show _ = _; rw [hzs]; exact HSO.out
        rw [← hzl] at hcap hsn ⊢
        clear hw6 hzs hH HI HSO
        obtain ⟨hH6, lg6, _⟩ := ir_holds i6
        have HI6 : Hid (IR w0.heap.size w6 (.slice (some ⟨g, 0, none⟩) zs.length cap) zs) := i6
        have B6 : Hid (Below w.heap.size w w6) := BW.out.trans (b6.mono (by omega))
        clear i6 b6 hzl
        go_wp2_with fail
        refine (Try.slices_Compact_int g 0 cap zs _ hH6 (by omega) hcap).mono ?_
        rintro e w7 ⟨rfl, n7, hw7⟩
        have hcl := Lib.compact_length_le zs
        obtain ⟨i7, b7⟩ := ir_put (n := n7) (os := #[]) HI6.out (ys := Lib.compact zs ++ List.replicate (zs.length - (Lib.compact zs).length) 0) (by simp; omega)
        have hg7 : Go.Sort.grow (Go.Sort.putRow (Value.int .i64) (Go.Sort.ahead w6 n7) g 0 (Lib.compact zs ++ List.replicate (zs.length - (Lib.compact zs).length) 0).toArray) #[] = w7 := by rw [hw7]; exact grow_none _
        rw [hg7] at i7 b7
        have B7 : Hid (Below w.heap.size w w7) := B6.out.trans (b7.mono (by have := BW.out.size; omega))
        have O7 : Hid (OwnF w.heap.size w7.heap.size 3 w7 (.slice (some ⟨g, 0, none⟩) (Lib.compact zs).length cap) (jmN y k).length (jmN y k).length (fun i => .int .i64 ((jmN y k).getD i 0))) := by
          have i8 : IR w0.heap.size w7 (.slice (some ⟨g, 0, none⟩) (Lib.compact zs).length cap) (Lib.compact zs) := by
            have := i7.take (m := (Lib.compact zs).length) (by simp)
            rw [List.take_left] at this
            exact this
          have := ir_own (i8.mono (C := w.heap.size) (by omega))
          rw [HSZ.out] at this ⊢
          exact this
        clear i7 b7 hg7 hw7 hH6 HI6 HSZ
        go_wp2
        go_ret
        exact ⟨_, rfl, O7.out, B7.out⟩
end Go.Proofs.Ytpjliclgjplebaa
