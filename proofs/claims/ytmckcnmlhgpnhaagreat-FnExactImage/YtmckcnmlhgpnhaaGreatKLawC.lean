/- The laws' own helpers at an arena: its size, and the copy of it that is handed in. -/
import Derived.Test.YtmckcnmlhgpnhaaGreatProg
import Derived.Test.YtmckcnmlhgpnhaaGreatKAllA
import Derived.Test.YtmckcnmlhgpnhaaGreatKArnA
import Derived.Test.YtmckcnmlhgpnhaaGreatKNewA
import Derived.Deep.SlicePairs
import Derived.Lib.SmallJoins
import Derived.ChangeArms
import Derived.WideShapes
namespace Go.Proofs.YtmckcnmlhgpnhaaGreat
set_option maxRecDepth 20000
open Go.RowKit
set_option linter.unusedSimpArgs false
set_option linter.unusedVariables false

theorem szWords_any (a : Option Addr) (n c : Nat) (left : Int) (w : World) (h0 : 0 ≤ left) (h1 : left ≤ 1048576) (hn : n ≤ 9223372036854775807) :
    Calls Tryz.prog 39 #[.slice a n c, .int .i64 left] w fun e w' => e = .returned (.int .i64 (if (n : Int) ≤ left then left - n else -1)) ∧ w' = w := by
  have hn' : (n : Int) ≤ 9223372036854775807 := by omega
  by_cases h : (n : Int) ≤ left
  · rw [if_pos h]
    have h2 : 0 ≤ left - (n : Int) := by omega
    go_enter Tryz.func39, Tryz.ntmps39
    go_wp2
    go_ret
    exact ⟨rfl, rfl⟩
  · rw [if_neg h]
    have h2 : left - (n : Int) < 0 := by omega
    go_enter Tryz.func39, Tryz.ntmps39
    go_wp2
    go_ret
    exact ⟨rfl, rfl⟩
theorem szVals_any (a : Option Addr) (n c : Nat) (left : Int) (w : World) (h0 : 0 ≤ left) (h1 : left ≤ 1048576) (hn : n ≤ 9223372036854775807) :
    Calls Tryz.prog 40 #[.slice a n c, .int .i64 left] w fun e w' => e = .returned (.int .i64 (if (n : Int) ≤ left then left - n else -1)) ∧ w' = w := by
  have hn' : (n : Int) ≤ 9223372036854775807 := by omega
  by_cases h : (n : Int) ≤ left
  · rw [if_pos h]
    have h2 : 0 ≤ left - (n : Int) := by omega
    go_enter Tryz.func40, Tryz.ntmps40
    go_wp2
    go_ret
    exact ⟨rfl, rfl⟩
  · rw [if_neg h]
    have h2 : left - (n : Int) < 0 := by omega
    go_enter Tryz.func40, Tryz.ntmps40
    go_wp2
    go_ret
    exact ⟨rfl, rfl⟩
theorem szArena_any (aw : Option Addr) (n cw : Nat) (semi toh top : Int) (cyc : Bool) (scan old copied serial : Int) (ar : Option Addr) (m cr : Nat) (w : World) (hn : n ≤ 9223372036854775807) (hm : m ≤ 9223372036854775807) :
    Calls Tryz.prog 10 #[.agg #[.slice aw n cw, .int .i64 semi, .int .i64 toh, .int .i64 top, .bool cyc, .int .i64 scan, .int .i64 old, .int .i64 copied, .int .i64 serial, .slice ar m cr], .int .i64 1048576] w fun e w' => e = .returned (.int .i64 (if (n : Int) + m ≤ 1048576 then 1048576 - n - m else -1)) ∧ Below w.heap.size w w' := by
  by_cases h1 : (n : Int) ≤ 1048576
  · by_cases h2 : (n : Int) + m ≤ 1048576
    · have g1 : ¬ (1048576 - (n : Int)) < 0 := by omega
      have g2 : ¬ (1048576 - (n : Int) - m) < 0 := by omega
      have e1 : (if (m : Int) ≤ 1048576 - (n : Int) then 1048576 - (n : Int) - m else -1) = 1048576 - (n : Int) - m := if_pos (by omega)
      rw [if_pos h2]
      go_enter Tryz.func10, Tryz.ntmps10
      go_wp2_with (first | (go_at_call 39; refine (szWords_any _ _ _ _ _ (by omega) (by omega) hn).mono ?_; rw [if_pos h1]; rintro e w1 ⟨rfl, rfl⟩) | (go_at_call 40; refine (szVals_any _ _ _ _ _ (by omega) (by omega) hm).mono ?_; rw [e1]; rintro e w2 ⟨rfl, rfl⟩))
      go_ret
      exact ⟨rfl, below_first (Below.refl _ _)⟩
    · have g1 : ¬ (1048576 - (n : Int)) < 0 := by omega
      have e1 : (if (m : Int) ≤ 1048576 - (n : Int) then 1048576 - (n : Int) - m else -1) = -1 := if_neg (by omega)
      rw [if_neg h2]
      go_enter Tryz.func10, Tryz.ntmps10
      go_wp2_with (first | (go_at_call 39; refine (szWords_any _ _ _ _ _ (by omega) (by omega) hn).mono ?_; rw [if_pos h1]; rintro e w1 ⟨rfl, rfl⟩) | (go_at_call 40; refine (szVals_any _ _ _ _ _ (by omega) (by omega) hm).mono ?_; rw [e1]; rintro e w2 ⟨rfl, rfl⟩))
      go_ret
      exact ⟨rfl, below_first (Below.refl _ _)⟩
  · have h2 : ¬ (n : Int) + m ≤ 1048576 := by omega
    rw [if_neg h2]
    go_enter Tryz.func10, Tryz.ntmps10
    go_wp2_with (first | (go_at_call 39; refine (szWords_any _ _ _ _ _ (by omega) (by omega) hn).mono ?_; rw [if_neg h1]; rintro e w1 ⟨rfl, rfl⟩))
    go_ret
    exact ⟨rfl, below_first (Below.refl _ _)⟩
theorem toWords_at (a : Option Addr) (cap : Nat) (zs : List Int) (w : World) (hs : Sl w (.slice a zs.length cap) zs) (hn : zs.length ≤ 1048576) :
    Calls Tryz.prog 47 #[.slice a zs.length cap] w fun e w' => e = .returned (.slice (some ⟨w.heap.size, 0, none⟩) zs.length zs.length) ∧ Own w.heap.size w' (.slice (some ⟨w.heap.size, 0, none⟩) zs.length zs.length) zs ∧ Below w.heap.size w w' := by
  obtain ⟨a', cap', he, hs⟩ := hs
  simp only [Value.slice.injEq] at he
  obtain ⟨rfl, _, rfl⟩ := he
  have hmk := fun (n : Nat) (hb : 8 * n ≤ 281474976710656) (h63 : n ≤ 9223372036854775807) (w : World) => run_make_row' (P := Tryz.prog) 22 100 (.int .u64 0) 8 Tryz.underlying22 info27 rfl .i64 .i64 n hb h63 w
  have hm1 := hmk zs.length (by omega) (by omega)
  clear hmk
  have hn' : (zs.length : Int) ≤ 1048576 := by omega
  go_enter Tryz.func47, Tryz.ntmps47
  go_wp2
  go_loopw [4] (fun i wr => ∃ k : Nat, k ≤ zs.length ∧ i = .int .i64 k ∧ Fill w wr zs.length zs k) (fun i _ => zs.length - (intOf i).toNat)
  case atStart => exact ⟨0, Nat.zero_le _, rfl, fill_start w _ _⟩
  case round =>
    obtain ⟨k, hk, rfl, hF⟩ := hrel
    by_cases hlt : k < zs.length
    · have hc1 := hF.2.cell hlt
      have hf1 := hF.2.frozen k
      rcases hs with rfl | ⟨b, off, rfl, hbl, hcell⟩
      · simp at hlt
      · have hc2 : wr.cell? ⟨b, off + k, none⟩ = some (.int .u64 (zs.getD k 0)) := by rw [hF.1.cell (p := ⟨b, off + k, none⟩) hbl]; exact hcell k hlt
        have hst := fill_step hF
        have hg : zs[k]?.getD 0 = zs[k] := by simp [hlt]
        go_wp2
        go_roundw
        case rel => exact ⟨k + 1, by omega, by go_num, by simpa [hlt] using hst⟩
        case measure => simp [intOf]; omega
    · go_wp2
      go_ret
      exact ⟨rfl, fill_end hF hlt, hF.1⟩
/-- A row of pairs that is filled: the first k pairs are those of y. -/
def FillV (w wr : World) (K n : Nat) (y : Nat → Int) (k : Nat) : Prop :=
  Below w.heap.size w wr ∧ wr.rowIs K 48 (n * 2) (fun j => .int .i64 (if j < 2 * k then y j else 0))
theorem fillV_step {w wr : World} {K n : Nat} {y : Nat → Int} {k : Nat} (h : FillV w wr K n y k) (hK : w.heap.size ≤ K) : FillV w ((wr.setCell ⟨K, k * 2, none⟩ (.int .i64 (y (2 * k)))).setCell ⟨K, k * 2 + 1, none⟩ (.int .i64 (y (2 * k + 1)))) K n y (k + 1) := by
  refine ⟨(h.1.setCell (p := ⟨K, k * 2, none⟩) hK _).setCell (p := ⟨K, k * 2 + 1, none⟩) hK _, ((h.2.set (k * 2) _).set (k * 2 + 1) _).congr fun j _ => ?_⟩
  by_cases e1 : j = k * 2 + 1
  · subst e1
    have : k * 2 + 1 < 2 * (k + 1) := by omega
    simp [this]
    congr 1
    omega
  · by_cases e2 : j = k * 2
    · subst e2
      have h1 : k * 2 < 2 * (k + 1) := by omega
      simp [h1]
      congr 1
      omega
    · by_cases e3 : j < 2 * k
      · have : j < 2 * (k + 1) := by omega
        simp [e1, e2, e3, this]
      · have : ¬ j < 2 * (k + 1) := by omega
        simp [e1, e2, e3, this]
theorem toVals_at (a : Option Addr) (n cap : Nat) (y : Nat → Int) (T : Nat) (w : World) (hs : SlF T w (.slice a n cap) n (2 * n) (fun i => .int .i64 (y i))) (hn : n ≤ 1048576) :
    Calls Tryz.prog 48 #[.slice a n cap] w fun e w' => e = .returned (.slice (some ⟨w.heap.size, 0, none⟩) n n) ∧ w'.rowIs w.heap.size 48 (n * 2) (fun i => .int .i64 (y i)) ∧ Below w.heap.size w w' := by
  have hn' : (n : Int) ≤ 1048576 := by omega
  have hm1 := makeVals (n : Int) (by omega) (by omega)
  rw [Int.toNat_natCast] at hm1
  have HS : Hid (SlF w.heap.size w (.slice a n cap) n (2 * n) (fun i => .int .i64 (y i))) := hs.here
  clear hs
  go_enter Tryz.func48, Tryz.ntmps48
  go_wp2
  go_loopw [4] (fun u4 wr => ∃ k : Nat, k ≤ n ∧ u4 = .int .i64 k ∧ FillV w wr w.heap.size n y k) (fun u4 _ => n - (intOf u4).toNat)
  case atStart => exact ⟨0, Nat.zero_le _, rfl, (Below.refl _ _).alloc (Nat.le_refl _) _, (rowIs_vals w (n * 2) 48).congr (fun i _ => by simp)⟩
  case round =>
    obtain ⟨k, hk, rfl, hF⟩ := hrel
    by_cases hlt : k < n
    · have hlt' : (k : Int) < (n : Int) := by omega
      obtain ⟨br, offr, cap', hv, _, lbr, hcr⟩ := HS.out.parts (k := 0) (by omega)
      simp only [Value.slice.injEq] at hv
      obtain ⟨rfl, _, rfl⟩ := hv
      have hc1 : wr.cell? ⟨br, offr + k * 2, none⟩ = some (.int .i64 (y (2 * k))) := by rw [hF.1.cell (p := ⟨br, offr + k * 2, none⟩) lbr, Nat.mul_comm]; exact hcr (2 * k) (by omega)
      have hd1 : wr.cell? ⟨br, offr + k * 2 + 1, none⟩ = some (.int .i64 (y (2 * k + 1))) := by rw [hF.1.cell (p := ⟨br, offr + k * 2 + 1, none⟩) lbr, Nat.mul_comm]; exact hcr (2 * k + 1) (by omega)
      have HF : Hid (FillV w wr w.heap.size n y k) := hF
      have lK : w.heap.size < wr.heap.size := hF.2.lt
      clear hF hcr HS hm1
      go_wp2_with (go_at_call 59; refine (toVal_any _ _ _).mono ?_; rintro e w1 ⟨rfl, b1⟩; have hF1 : FillV w w1 w.heap.size n y k := ⟨below_next HF.out.1 b1, HF.out.2.of_block (b1.block _ lK)⟩; have g0 := hF1.2.cell (i := k * 2) (by omega); have g1 := hF1.2.cell (i := k * 2 + 1) (by omega); have gf := hF1.2.frozen)
      exact ⟨⟨k + 1, hlt, by go_num, fillV_step hF1 (Nat.le_refl _)⟩, by simp [intOf]; omega⟩
    · have hge : (n : Int) ≤ (k : Int) := by omega
      have hkn : k = n := by omega
      have hR : wr.rowIs w.heap.size 48 (n * 2) (fun i => .int .i64 (y i)) := hF.2.congr (fun j hj => by rw [if_pos (by omega)])
      clear hkn
      go_wp2
      go_ret
      exact ⟨rfl, hR, hF.1⟩
theorem sl_set {W : World} {b n c : Nat} {ws : List Int} (h : Sl W (.slice (some ⟨b, 0, none⟩) n c) ws) {k i : Nat} (hne : k ≠ b) (v : Value) : Sl (W.setCell ⟨k, i, none⟩ v) (.slice (some ⟨b, 0, none⟩) n c) ws := by
  obtain ⟨a, cap, he, h⟩ := h
  refine ⟨a, cap, he, ?_⟩
  simp only [Value.slice.injEq] at he
  obtain ⟨rfl, _, _⟩ := he
  rcases h with h | ⟨b', off, ha, hb, hc⟩
  · exact .inl h
  · simp only [Option.some.injEq, Addr.mk.injEq] at ha
    obtain ⟨rfl, rfl, _⟩ := ha
    refine .inr ⟨_, _, rfl, by simpa using hb, fun j hj => ?_⟩
    rw [World.cell?_setCell_other _ _ _ _ (fun e => hne (congrArg Addr.block e))]
    exact hc j hj
theorem slF_set {W : World} {b n c m : Nat} {f : Nat → Value} (h : SlF W.heap.size W (.slice (some ⟨b, 0, none⟩) n c) n m f) {k i : Nat} (hne : k ≠ b) (v : Value) : SlF (W.setCell ⟨k, i, none⟩ v).heap.size (W.setCell ⟨k, i, none⟩ v) (.slice (some ⟨b, 0, none⟩) n c) n m f := by
  obtain ⟨a, cap, he, h⟩ := h
  refine ⟨a, cap, he, ?_⟩
  simp only [Value.slice.injEq] at he
  obtain ⟨rfl, _, _⟩ := he
  rcases h with h | ⟨b', off, ha, hb, hb2, hc⟩
  · exact .inl h
  · simp only [Option.some.injEq, Addr.mk.injEq] at ha
    obtain ⟨rfl, rfl, _⟩ := ha
    refine .inr ⟨_, _, rfl, by simpa using hb, by simpa using hb2, fun j hj => ?_⟩
    rw [World.cell?_setCell_other _ _ _ _ (fun e => hne (congrArg Addr.block e))]
    exact hc j hj
set_option maxHeartbeats 2000000 in
/-- The laws' copy of an arena: what was handed in, in memory of its own. -/
theorem toArena_at (aw : Option Addr) (cw : Nat) (ws : List Int) (semi toh top : Int) (cyc : Bool) (scan old copied serial : Int) (ar : Option Addr) (cr : Nat) (rs : List (Int × Int)) (y : Nat → Int) (Tr : Nat) (w : World) (hs : Sl w (.slice aw ws.length cw) ws) (hn : ws.length ≤ 1048576) (hrt : SlF Tr w (.slice ar rs.length cr) rs.length (2 * rs.length) (fun i => .int .i64 (y i))) (hn2 : rs.length ≤ 1048576) :
    Calls Tryz.prog 12 #[.agg #[.slice aw ws.length cw, .int .i64 semi, .int .i64 toh, .int .i64 top, .bool cyc, .int .i64 scan, .int .i64 old, .int .i64 copied, .int .i64 serial, .slice ar rs.length cr]] w fun e w' => ∃ b1 b2 : Nat, e = .returned (.agg #[.slice (some ⟨b1, 0, none⟩) ws.length ws.length, .int .i64 semi, .int .i64 toh, .int .i64 top, .bool cyc, .int .i64 scan, .int .i64 old, .int .i64 copied, .int .i64 serial, .slice (some ⟨b2, 0, none⟩) rs.length rs.length]) ∧ Sl w' (.slice (some ⟨b1, 0, none⟩) ws.length ws.length) ws ∧ SlF w'.heap.size w' (.slice (some ⟨b2, 0, none⟩) rs.length rs.length) rs.length (2 * rs.length) (fun i => .int .i64 (y i)) ∧ Below w.heap.size w w' := by
  have HS : Hid (Sl w (.slice aw ws.length cw) ws) := hs
  have HR : Hid (SlF w.heap.size w (.slice ar rs.length cr) rs.length (2 * rs.length) (fun i => .int .i64 (y i))) := hrt.here
  clear hs hrt
  go_enter Tryz.func12, Tryz.ntmps12
  have B3 : Below w.heap.size w (((w.alloc (.cells #[.slice aw ws.length cw, .int .i64 semi, .int .i64 toh, .int .i64 top, .bool cyc, .int .i64 scan, .int .i64 old, .int .i64 copied, .int .i64 serial, .slice ar rs.length cr] 25)).alloc (.cells #[.slice none 0 0, .int .i64 0, .int .i64 0, .int .i64 0, .bool false, .int .i64 0, .int .i64 0, .int .i64 0, .int .i64 0, .slice none 0 0] 30)).alloc (.cells #[.slice none 0 0, .int .i64 0, .int .i64 0, .int .i64 0, .bool false, .int .i64 0, .int .i64 0, .int .i64 0, .int .i64 0, .slice none 0 0] 30)) := below_third (Below.refl _ _)
  go_wp2_with (first | (go_at_call 47; refine (toWords_at _ _ ws _ (HS.out.below B3) hn).mono ?_; rintro e w1 ⟨rfl, o1, b1⟩; obtain ⟨k1, k2, k3⟩ := three_cells b1; have f3 : ∀ i, w1.frozen? ⟨w.heap.size + 1 + 1, i, none⟩ = false := fun i => (by rw [(bcell b1).2 _ _ (by simp)]; simp [go_sem]); have f2 : ∀ i, w1.frozen? ⟨w.heap.size + 1, i, none⟩ = false := fun i => (by rw [(bcell b1).2 _ _ (by simp)]; simp [go_sem])) | fail)
  have r3 : w1.rowIs (w.heap.size + 1 + 1) 30 10 (fun i => (#[.slice none 0 0, .int .i64 0, .int .i64 0, .int .i64 0, .bool false, .int .i64 0, .int .i64 0, .int .i64 0, .int .i64 0, .slice none 0 0] : Array Value).getD i (.bool false)) := ⟨(#[.slice none 0 0, .int .i64 0, .int .i64 0, .int .i64 0, .bool false, .int .i64 0, .int .i64 0, .int .i64 0, .int .i64 0, .slice none 0 0] : Array Value), (b1.block _ (by simp)).trans (alloc_at (by simp)), rfl, fun i hi => by simp [Array.getD, hi]⟩
  have r2 : w1.rowIs (w.heap.size + 1) 30 10 (fun i => (#[.slice none 0 0, .int .i64 0, .int .i64 0, .int .i64 0, .bool false, .int .i64 0, .int .i64 0, .int .i64 0, .int .i64 0, .slice none 0 0] : Array Value).getD i (.bool false)) := ⟨(#[.slice none 0 0, .int .i64 0, .int .i64 0, .int .i64 0, .bool false, .int .i64 0, .int .i64 0, .int .i64 0, .int .i64 0, .slice none 0 0] : Array Value), (b1.block _ (by simp)).trans ((alloc_old (by simp)).trans (alloc_at (by simp))), rfl, fun i hi => by simp [Array.getD, hi]⟩
  have hz2 : w.heap.size ≤ w.heap.size + 1 + 1 := by omega
  obtain ⟨W9, hW9⟩ : ∃ W, W = (((((((((w1.setCell ⟨w.heap.size + 1 + 1, 0, none⟩ (.slice (some ⟨w.heap.size + 1 + 1 + 1, 0, none⟩) ws.length ws.length)).setCell ⟨w.heap.size + 1 + 1, 1, none⟩ (.int .i64 semi)).setCell ⟨w.heap.size + 1 + 1, 2, none⟩ (.int .i64 toh)).setCell ⟨w.heap.size + 1 + 1, 3, none⟩ (.int .i64 top)).setCell ⟨w.heap.size + 1 + 1, 4, none⟩ (.bool cyc)).setCell ⟨w.heap.size + 1 + 1, 5, none⟩ (.int .i64 scan)).setCell ⟨w.heap.size + 1 + 1, 6, none⟩ (.int .i64 old)).setCell ⟨w.heap.size + 1 + 1, 7, none⟩ (.int .i64 copied)).setCell ⟨w.heap.size + 1 + 1, 8, none⟩ (.int .i64 serial)) := ⟨_, rfl⟩
  have R3 := (((((((((r3.set 0 (.slice (some ⟨w.heap.size + 1 + 1 + 1, 0, none⟩) ws.length ws.length)).set 1 (.int .i64 semi)).set 2 (.int .i64 toh)).set 3 (.int .i64 top)).set 4 (.bool cyc)).set 5 (.int .i64 scan)).set 6 (.int .i64 old)).set 7 (.int .i64 copied)).set 8 (.int .i64 serial))
  have R2 := (((((((((r2.setOther (a := ⟨w.heap.size + 1 + 1, 0, none⟩) (by show w.heap.size + 1 ≠ w.heap.size + 1 + 1; omega) (.slice (some ⟨w.heap.size + 1 + 1 + 1, 0, none⟩) ws.length ws.length)).setOther (a := ⟨w.heap.size + 1 + 1, 1, none⟩) (by show w.heap.size + 1 ≠ w.heap.size + 1 + 1; omega) (.int .i64 semi)).setOther (a := ⟨w.heap.size + 1 + 1, 2, none⟩) (by show w.heap.size + 1 ≠ w.heap.size + 1 + 1; omega) (.int .i64 toh)).setOther (a := ⟨w.heap.size + 1 + 1, 3, none⟩) (by show w.heap.size + 1 ≠ w.heap.size + 1 + 1; omega) (.int .i64 top)).setOther (a := ⟨w.heap.size + 1 + 1, 4, none⟩) (by show w.heap.size + 1 ≠ w.heap.size + 1 + 1; omega) (.bool cyc)).setOther (a := ⟨w.heap.size + 1 + 1, 5, none⟩) (by show w.heap.size + 1 ≠ w.heap.size + 1 + 1; omega) (.int .i64 scan)).setOther (a := ⟨w.heap.size + 1 + 1, 6, none⟩) (by show w.heap.size + 1 ≠ w.heap.size + 1 + 1; omega) (.int .i64 old)).setOther (a := ⟨w.heap.size + 1 + 1, 7, none⟩) (by show w.heap.size + 1 ≠ w.heap.size + 1 + 1; omega) (.int .i64 copied)).setOther (a := ⟨w.heap.size + 1 + 1, 8, none⟩) (by show w.heap.size + 1 ≠ w.heap.size + 1 + 1; omega) (.int .i64 serial))
  have B9 := ((((((((((below_third b1).setCell (p := ⟨w.heap.size + 1 + 1, 0, none⟩) hz2 (.slice (some ⟨w.heap.size + 1 + 1 + 1, 0, none⟩) ws.length ws.length)).setCell (p := ⟨w.heap.size + 1 + 1, 1, none⟩) hz2 (.int .i64 semi)).setCell (p := ⟨w.heap.size + 1 + 1, 2, none⟩) hz2 (.int .i64 toh)).setCell (p := ⟨w.heap.size + 1 + 1, 3, none⟩) hz2 (.int .i64 top)).setCell (p := ⟨w.heap.size + 1 + 1, 4, none⟩) hz2 (.bool cyc)).setCell (p := ⟨w.heap.size + 1 + 1, 5, none⟩) hz2 (.int .i64 scan)).setCell (p := ⟨w.heap.size + 1 + 1, 6, none⟩) hz2 (.int .i64 old)).setCell (p := ⟨w.heap.size + 1 + 1, 7, none⟩) hz2 (.int .i64 copied)).setCell (p := ⟨w.heap.size + 1 + 1, 8, none⟩) hz2 (.int .i64 serial))
  have OW := o1.block (w' := W9) (fun k hk _ => by
    have hk' : w.heap.size + 1 + 1 < k := by simp at hk; omega
    rw [hW9]
    repeat rw [Below.heap_setCell _ _ _ _ (by show k ≠ w.heap.size + 1 + 1; omega)])
  rw [← hW9] at R3 R2 B9 ⊢
  clear hW9 o1 k1 k2 k3 f3 f2 r3 r2 b1
  refine (toVals_at _ _ _ y _ _ (HR.out.below B9 (Nat.le_refl _)) hn2).mono ?_
  rintro e w2 ⟨rfl, rr, b2⟩
  have Q3 := R3.of_block (b2.block _ R3.lt)
  have Q2 := R2.of_block (b2.block _ R2.lt)
  have OW2 := OW.block (w' := w2) (fun k _ hk => b2.block k hk)
  have B2 := below_next B9 b2
  have lW := R3.lt
  clear R3 R2 B9 OW b2
  have c0 : w2.cell? ⟨w.heap.size + 1 + 1, 0, none⟩ = some (.slice (some ⟨w.heap.size + 1 + 1 + 1, 0, none⟩) ws.length ws.length) := by simpa using Q3.cell (i := 0) (by omega)
  have d0 : w2.cell? ⟨w.heap.size + 1, 0, none⟩ = some (.slice none 0 0) := by simpa using Q2.cell (i := 0) (by omega)
  have c1 : w2.cell? ⟨w.heap.size + 1 + 1, 1, none⟩ = some (.int .i64 semi) := by simpa using Q3.cell (i := 1) (by omega)
  have d1 : w2.cell? ⟨w.heap.size + 1, 1, none⟩ = some (.int .i64 0) := by simpa using Q2.cell (i := 1) (by omega)
  have c2 : w2.cell? ⟨w.heap.size + 1 + 1, 2, none⟩ = some (.int .i64 toh) := by simpa using Q3.cell (i := 2) (by omega)
  have d2 : w2.cell? ⟨w.heap.size + 1, 2, none⟩ = some (.int .i64 0) := by simpa using Q2.cell (i := 2) (by omega)
  have c3 : w2.cell? ⟨w.heap.size + 1 + 1, 3, none⟩ = some (.int .i64 top) := by simpa using Q3.cell (i := 3) (by omega)
  have d3 : w2.cell? ⟨w.heap.size + 1, 3, none⟩ = some (.int .i64 0) := by simpa using Q2.cell (i := 3) (by omega)
  have c4 : w2.cell? ⟨w.heap.size + 1 + 1, 4, none⟩ = some (.bool cyc) := by simpa using Q3.cell (i := 4) (by omega)
  have d4 : w2.cell? ⟨w.heap.size + 1, 4, none⟩ = some (.bool false) := by simpa using Q2.cell (i := 4) (by omega)
  have c5 : w2.cell? ⟨w.heap.size + 1 + 1, 5, none⟩ = some (.int .i64 scan) := by simpa using Q3.cell (i := 5) (by omega)
  have d5 : w2.cell? ⟨w.heap.size + 1, 5, none⟩ = some (.int .i64 0) := by simpa using Q2.cell (i := 5) (by omega)
  have c6 : w2.cell? ⟨w.heap.size + 1 + 1, 6, none⟩ = some (.int .i64 old) := by simpa using Q3.cell (i := 6) (by omega)
  have d6 : w2.cell? ⟨w.heap.size + 1, 6, none⟩ = some (.int .i64 0) := by simpa using Q2.cell (i := 6) (by omega)
  have c7 : w2.cell? ⟨w.heap.size + 1 + 1, 7, none⟩ = some (.int .i64 copied) := by simpa using Q3.cell (i := 7) (by omega)
  have d7 : w2.cell? ⟨w.heap.size + 1, 7, none⟩ = some (.int .i64 0) := by simpa using Q2.cell (i := 7) (by omega)
  have c8 : w2.cell? ⟨w.heap.size + 1 + 1, 8, none⟩ = some (.int .i64 serial) := by simpa using Q3.cell (i := 8) (by omega)
  have d8 : w2.cell? ⟨w.heap.size + 1, 8, none⟩ = some (.int .i64 0) := by simpa using Q2.cell (i := 8) (by omega)
  have c9 : w2.cell? ⟨w.heap.size + 1 + 1, 9, none⟩ = some (.slice none 0 0) := by simpa using Q3.cell (i := 9) (by omega)
  have d9 : w2.cell? ⟨w.heap.size + 1, 9, none⟩ = some (.slice none 0 0) := by simpa using Q2.cell (i := 9) (by omega)
  have f3 := Q3.frozen
  have f2 := Q2.frozen
  have HQ3 : Hid (w.heap.size + 1 + 1 < w2.heap.size) := Q3.lt
  have SW := OW2.sl
  have SR : SlF w2.heap.size w2 (.slice (some ⟨W9.heap.size, 0, none⟩) rs.length rs.length) rs.length (2 * rs.length) (fun i => .int .i64 (y i)) := ⟨_, _, rfl, .inr ⟨W9.heap.size, 0, rfl, rr.lt, rr.lt, fun i hi => by rw [Nat.zero_add]; exact rr.cell (by omega)⟩⟩
  have HSW : Hid (Sl w2 (.slice (some ⟨w.heap.size + 1 + 1 + 1, 0, none⟩) ws.length ws.length) ws) := by show Sl w2 (.slice (some ⟨w.heap.size + 1 + 1 + 1, 0, none⟩) ws.length ws.length) ws; simpa using SW
  have HSR : Hid (SlF w2.heap.size w2 (.slice (some ⟨W9.heap.size, 0, none⟩) rs.length rs.length) rs.length (2 * rs.length) (fun i => .int .i64 (y i))) := SR
  have HB2 : Hid (Below w.heap.size w w2) := B2
  clear Q3 Q2 OW2 rr SW SR B2
  have hne1 : w.heap.size + 1 ≠ w.heap.size + 1 + 1 + 1 := by omega
  have hne2 : w.heap.size + 1 + 1 ≠ w.heap.size + 1 + 1 + 1 := by omega
  have hne3 : w.heap.size + 1 ≠ W9.heap.size := by omega
  have hne4 : w.heap.size + 1 + 1 ≠ W9.heap.size := by omega
  go_wp2
  have p0 : (w2.cell? ⟨w.heap.size + 1, 0, none⟩).isSome = true := by rw [d0]; rfl
  have p1 : (w2.cell? ⟨w.heap.size + 1, 1, none⟩).isSome = true := by rw [d1]; rfl
  have p2 : (w2.cell? ⟨w.heap.size + 1, 2, none⟩).isSome = true := by rw [d2]; rfl
  have p3 : (w2.cell? ⟨w.heap.size + 1, 3, none⟩).isSome = true := by rw [d3]; rfl
  have p4 : (w2.cell? ⟨w.heap.size + 1, 4, none⟩).isSome = true := by rw [d4]; rfl
  have p5 : (w2.cell? ⟨w.heap.size + 1, 5, none⟩).isSome = true := by rw [d5]; rfl
  have p6 : (w2.cell? ⟨w.heap.size + 1, 6, none⟩).isSome = true := by rw [d6]; rfl
  have p7 : (w2.cell? ⟨w.heap.size + 1, 7, none⟩).isSome = true := by rw [d7]; rfl
  have p8 : (w2.cell? ⟨w.heap.size + 1, 8, none⟩).isSome = true := by rw [d8]; rfl
  have p9 : (w2.cell? ⟨w.heap.size + 1, 9, none⟩).isSome = true := by rw [d9]; rfl
  refine bodyPost_ret (v := .agg #[.slice (some ⟨w.heap.size + 1 + 1 + 1, 0, none⟩) ws.length ws.length, .int .i64 semi, .int .i64 toh, .int .i64 top, .bool cyc, .int .i64 scan, .int .i64 old, .int .i64 copied, .int .i64 serial, .slice (some ⟨W9.heap.size, 0, none⟩) rs.length rs.length]) (by simp [results, Tryz.results12, go_sem, p0, p1, p2, p3, p4, p5, p6, p7, p8, p9]) rfl ⟨_, _, rfl, ?_, ?_, ?_⟩
  · refine sl_set ?_ hne1 _
    refine sl_set ?_ hne1 _
    refine sl_set ?_ hne1 _
    refine sl_set ?_ hne1 _
    refine sl_set ?_ hne1 _
    refine sl_set ?_ hne1 _
    refine sl_set ?_ hne1 _
    refine sl_set ?_ hne1 _
    refine sl_set ?_ hne1 _
    refine sl_set ?_ hne1 _
    refine sl_set ?_ hne2 _
    exact HSW.out
  · refine slF_set ?_ hne3 _
    refine slF_set ?_ hne3 _
    refine slF_set ?_ hne3 _
    refine slF_set ?_ hne3 _
    refine slF_set ?_ hne3 _
    refine slF_set ?_ hne3 _
    refine slF_set ?_ hne3 _
    refine slF_set ?_ hne3 _
    refine slF_set ?_ hne3 _
    refine slF_set ?_ hne3 _
    refine slF_set ?_ hne4 _
    exact HSR.out
  · refine Below.setCell ?_ (Nat.le_succ _) _
    refine Below.setCell ?_ (Nat.le_succ _) _
    refine Below.setCell ?_ (Nat.le_succ _) _
    refine Below.setCell ?_ (Nat.le_succ _) _
    refine Below.setCell ?_ (Nat.le_succ _) _
    refine Below.setCell ?_ (Nat.le_succ _) _
    refine Below.setCell ?_ (Nat.le_succ _) _
    refine Below.setCell ?_ (Nat.le_succ _) _
    refine Below.setCell ?_ (Nat.le_succ _) _
    refine Below.setCell ?_ (Nat.le_succ _) _
    refine Below.setCell ?_ hz2 _
    exact HB2.out
end Go.Proofs.YtmckcnmlhgpnhaaGreat

/- The law FnExactArenaOk, walked. -/
namespace Go.Proofs.YtmckcnmlhgpnhaaGreat
set_option maxRecDepth 20000
open Go.RowKit
set_option linter.unusedSimpArgs false
set_option linter.unusedVariables false

theorem below_box {w W : World} {o : Obj} (h : Below w.heap.size w W) : Below w.heap.size w (W.alloc o) := h.alloc h.size o
theorem sl_f {w : World} {v : Value} {zs : List Int} (h : Sl w v zs) : SlF w.heap.size w v zs.length zs.length (fun i => .int .u64 (wordAt zs i)) := by
  obtain ⟨a, cap, rfl, h⟩ := h
  refine ⟨a, cap, rfl, ?_⟩
  rcases h with rfl | ⟨b, off, rfl, hb, hc⟩
  · exact .inl rfl
  · exact .inr ⟨b, off, rfl, hb, hb, hc⟩
end Go.Proofs.YtmckcnmlhgpnhaaGreat

/- An arena that is handed to a law, opened. -/
namespace Go.Proofs.YtmckcnmlhgpnhaaGreat
set_option maxRecDepth 20000
open Go.ChangeShapes Go.WideShapes Go.ChangeAt Go.RowKit Go.Joins Go.Deep
set_option linter.unusedSimpArgs false
set_option linter.unusedVariables false

theorem array10 {α : Type} {cs : Array α} (h : cs.size = 10) : ∃ c0 c1 c2 c3 c4 c5 c6 c7 c8 c9, cs = #[c0, c1, c2, c3, c4, c5, c6, c7, c8, c9] := by
  obtain ⟨l⟩ := cs
  match l, h with
  | [c0, c1, c2, c3, c4, c5, c6, c7, c8, c9], _ => exact ⟨c0, c1, c2, c3, c4, c5, c6, c7, c8, c9, rfl⟩
theorem cellsArena : Tryz.prog.cellsOf 25 = 10 := by kernel_rfl
theorem cellsLawVal : Tryz.prog.cellsOf 39 = 2 := by kernel_rfl
theorem arenaFields : Tryz.prog.underlying 25 = some (.struct (Tryz.prog.fieldsOf 25)) := by kernel_rfl
theorem arenaField : (Tryz.prog.fieldsOf 25).toList.map (fun f => (f.type, f.offset, Tryz.prog.cellsOf f.type)) = [(22, 0, 1), (3, 1, 1), (3, 2, 1), (3, 3, 1), (4, 4, 1), (3, 5, 1), (3, 6, 1), (3, 7, 1), (3, 8, 1), (23, 9, 1)] := by kernel_rfl
theorem lawVals {H : Type} {enc : TypeId × Value → H} {w : World} {fuel : Nat} {v : Value} {x : DataW H × List MemPlace} (h : DataW.trod enc Tryz.prog w 0 (fun _ => true) true fuel 23 [v] = some x) :
    ∃ (ar : Option Addr) (cr : Nat) (rs : List (Int × Int)) (y : Nat → Int), v = .slice ar rs.length cr ∧ rs.length ≤ 9223372036854775807 ∧ SlF w.heap.size w (.slice ar rs.length cr) rs.length (2 * rs.length) (fun i => .int .i64 (y i)) := by
  obtain ⟨f0, f1, hf, g0, g1, g2, g3, g4, g5⟩ : ∃ f0 f1 : Field, Tryz.prog.underlying 39 = some (.struct #[f0, f1]) ∧ f0.offset = 0 ∧ f1.offset = 1 ∧ Tryz.prog.cellsOf f0.type = 1 ∧ Tryz.prog.cellsOf f1.type = 1 ∧ Tryz.prog.underlying f0.type = some (.int .i64) ∧ Tryz.prog.underlying f1.type = some (.int .i64) := ⟨_, _, Tryz.underlying39, by kernel_rfl, by kernel_rfl, by kernel_rfl, by kernel_rfl, by kernel_rfl, by kernel_rfl⟩
  rcases open_slice_pairs Tryz.underlying23 hf cellsLawVal g0 g1 g2 g3 h with ⟨hcs, _⟩ | ⟨a, len, cap, m, n, V0, V1, D0, D1, P0, P1, hcs, _, hl, hm, hmm, _, hx⟩
  · simp only [List.cons.injEq, and_true] at hcs
    exact ⟨none, 0, [], fun _ => 0, hcs, by simp, ⟨none, 0, rfl, .inl rfl⟩⟩
  · simp only [List.cons.injEq, and_true] at hcs
    have hmc : m = cap := by simpa using hmm
    subst hmc
    have hi : ∀ i, i < m → ∃ p : Int × Int, w.cell? (a.add (i * 2)) = some (.int .i64 p.1) ∧ w.cell? (a.add (i * 2 + 1)) = some (.int .i64 p.2) := fun i hi => by
      obtain ⟨h1, h2, h3, h4⟩ := hx i hi
      obtain ⟨z0, e0, _⟩ := DataW.trod_int g4 h3
      obtain ⟨z1, e1, _⟩ := DataW.trod_int g5 h4
      simp only [List.cons.injEq, and_true] at e0 e1
      exact ⟨(z0, z1), by rw [h1, e0], by rw [h2, e1]⟩
    obtain ⟨q, hq⟩ := choose_lt hi
    refine ⟨some a, m, List.replicate len (0, 0), fun j => if j % 2 = 0 then (q (j / 2)).1 else (q (j / 2)).2, by simpa using hcs, by simp [maxLen] at hm ⊢; omega, ?_⟩
    refine ⟨some a, m, rfl, ?_⟩
    by_cases h0 : len = 0
    · exact .inl (by simp [h0])
    · obtain ⟨b, off, spot⟩ := a
      have h1 := (hq 0 (by omega)).1
      have hspot : spot = none := by simpa [Addr.add] using World.cell?_spot h1
      subst hspot
      refine .inr ⟨b, off, rfl, ?_, ?_, fun j hj => ?_⟩
      · rw [Addr.add_lit] at h1
        exact World.block_lt_of_cell? _ _ h1
      · rw [Addr.add_lit] at h1
        exact World.block_lt_of_cell? _ _ h1
      · simp only [List.length_replicate] at hj
        obtain ⟨h2, h3⟩ := hq (j / 2) (by omega)
        rw [Addr.add_lit] at h2 h3
        by_cases e : j % 2 = 0
        · have : j / 2 * 2 = j := by omega
          rw [this] at h2
          simp [e, h2]
        · have : j / 2 * 2 + 1 = j := by omega
          rw [this] at h3
          simp [e, h3]
theorem lawWords {H : Type} {enc : TypeId × Value → H} {w : World} {fuel : Nat} {v : Value} {x : DataW H × List MemPlace} (h : DataW.trod enc Tryz.prog w 0 (fun _ => true) true fuel 22 [v] = some x) :
    ∃ (aw : Option Addr) (cw : Nat) (ws : List Int), v = .slice aw ws.length cw ∧ ws.length ≤ 9223372036854775807 ∧ Sl w (.slice aw ws.length cw) ws ∧ Words64 ws := by
  rcases open_ints Tryz.underlying22 Tryz.underlying100 (by kernel_rfl) h with ⟨hcs, _⟩ | ⟨a, len, cap, zs, hcs, _, hl, hm, hz, _, hc, hw⟩
  · simp only [List.cons.injEq, and_true] at hcs
    exact ⟨none, 0, [], hcs, by simp, ⟨none, 0, rfl, .inl rfl⟩, fun z hz => by simp at hz⟩
  · simp only [List.cons.injEq, and_true] at hcs
    have hr : IsRow .u64 w (some a) len cap zs := .inr ⟨a, rfl, hl, hm, by simpa using hz, hc, hw⟩
    obtain ⟨ys, rfl, h1, h2⟩ := hr.sl
    exact ⟨some a, cap, ys, hcs, by simp [maxLen] at hm; omega, h1, h2⟩
/-- An arena that is handed in: its ten cells, its words and its Roots. -/
theorem open_arena {H : Type} {enc : TypeId × Value → H} {w : World} {r : Reach} {b0 : Nat} {v : Value} {d : DataW H} {p : List MemPlace} (hv : Value.okWide Tryz.prog w r b0 25 v) (h : DataW.Trod enc Tryz.prog w 0 (fun _ => true) true 25 v d p) :
    ∃ (aw : Option Addr) (cw : Nat) (ws : List Int) (semi toh top : Int) (cyc : Bool) (scan old copied serial : Int) (ar : Option Addr) (cr : Nat) (rs : List (Int × Int)) (y : Nat → Int), v = .agg #[.slice aw ws.length cw, .int .i64 semi, .int .i64 toh, .int .i64 top, .bool cyc, .int .i64 scan, .int .i64 old, .int .i64 copied, .int .i64 serial, .slice ar rs.length cr] ∧ Sl w (.slice aw ws.length cw) ws ∧ Words64 ws ∧ SlF w.heap.size w (.slice ar rs.length cr) rs.length (2 * rs.length) (fun i => .int .i64 (y i)) ∧ ws.length ≤ 9223372036854775807 ∧ rs.length ≤ 9223372036854775807 := by
  obtain ⟨cs, rfl, hsz⟩ := okWide_struct arenaFields hv
  obtain ⟨c0, c1, c2, c3, c4, c5, c6, c7, c8, c9, rfl⟩ := array10 (hsz.trans cellsArena)
  obtain ⟨fuel, hf⟩ := h
  obtain ⟨xs, n, _, _, _, hlen, hall⟩ := DataW.trod_struct arenaFields hf
  have hfld := arenaField
  generalize Tryz.prog.fieldsOf 25 = fs at hall hfld hlen
  obtain ⟨l⟩ := fs
  have hl : l.length = 10 := by have := congrArg List.length hfld; simpa using this
  match l, hl with
  | [f0, f1, f2, f3, f4, f5, f6, f7, f8, f9], _ =>
    simp only [List.map_cons, List.map_nil, List.cons.injEq, Prod.mk.injEq, and_true] at hfld
    obtain ⟨⟨a0, b0, d0⟩, ⟨a1, b1, d1⟩, ⟨a2, b2, d2⟩, ⟨a3, b3, d3⟩, ⟨a4, b4, d4⟩, ⟨a5, b5, d5⟩, ⟨a6, b6, d6⟩, ⟨a7, b7, d7⟩, ⟨a8, b8, d8⟩, a9, b9, d9⟩ := hfld
    simp at hlen
    match xs, hlen with
    | [y0, y1, y2, y3, y4, y5, y6, y7, y8, y9], _ =>
      have e0 := hall 0 f0 rfl
      have e1 := hall 1 f1 rfl
      have e2 := hall 2 f2 rfl
      have e3 := hall 3 f3 rfl
      have e4 := hall 4 f4 rfl
      have e5 := hall 5 f5 rfl
      have e6 := hall 6 f6 rfl
      have e7 := hall 7 f7 rfl
      have e8 := hall 8 f8 rfl
      have e9 := hall 9 f9 rfl
      rw [a0, b0] at e0
      rw [a1, b1] at e1
      rw [a2, b2] at e2
      rw [a3, b3] at e3
      rw [a4, b4] at e4
      rw [a5, b5] at e5
      rw [a6, b6] at e6
      rw [a7, b7] at e7
      rw [a8, b8] at e8
      rw [a9, b9] at e9
      rw [a0] at d0
      rw [a1] at d1
      rw [a4] at d4
      rw [a9] at d9
      simp [Value.cells, d0, d1, d4, d9] at e0 e1 e2 e3 e4 e5 e6 e7 e8 e9
      obtain ⟨aw, cw, ws, rfl, l1, s1, w1⟩ := lawWords e0
      obtain ⟨z1, k1, _⟩ := DataW.trod_int Tryz.underlying3 e1
      obtain ⟨z2, k2, _⟩ := DataW.trod_int Tryz.underlying3 e2
      obtain ⟨z3, k3, _⟩ := DataW.trod_int Tryz.underlying3 e3
      obtain ⟨z4, k4, _⟩ := DataW.trod_bool Tryz.underlying4 e4
      obtain ⟨z5, k5, _⟩ := DataW.trod_int Tryz.underlying3 e5
      obtain ⟨z6, k6, _⟩ := DataW.trod_int Tryz.underlying3 e6
      obtain ⟨z7, k7, _⟩ := DataW.trod_int Tryz.underlying3 e7
      obtain ⟨z8, k8, _⟩ := DataW.trod_int Tryz.underlying3 e8
      obtain ⟨ar, cr, rs, y, rfl, l2, s2⟩ := lawVals e9
      simp only [List.cons.injEq, and_true] at k1 k2 k3 k4 k5 k6 k7 k8
      subst k1 k2 k3 k4 k5 k6 k7 k8
      exact ⟨aw, cw, ws, z1, z2, z3, z4, z5, z6, z7, z8, ar, cr, rs, y, rfl, s1, w1, s2, l1, l2⟩
end Go.Proofs.YtmckcnmlhgpnhaaGreat
