/- The laws' own helpers at an arena: its size, and the copy of it that is handed in. -/
import Derived.Test.YtibjellhafndiaaGreatDoorProg
import Derived.Test.YtibjellhafndiaaGreatDoorSAllA
import Derived.Test.YtibjellhafndiaaGreatDoorSArnA
import Derived.Test.YtibjellhafndiaaGreatDoorSNewA
namespace Go.Proofs.YtibjellhafndiaaGreatDoor
set_option maxRecDepth 20000
open Go.RowKit
set_option linter.unusedSimpArgs false
set_option linter.unusedVariables false

theorem szWords_any (a : Option Addr) (n c : Nat) (left : Int) (w : World) (h0 : 0 ≤ left) (h1 : left ≤ 1048576) (hn : n ≤ 9223372036854775807) :
    Calls Tryz.prog 41 #[.slice a n c, .int .i64 left] w fun e w' => e = .returned (.int .i64 (if (n : Int) ≤ left then left - n else -1)) ∧ w' = w := by
  have hn' : (n : Int) ≤ 9223372036854775807 := by omega
  by_cases h : (n : Int) ≤ left
  · rw [if_pos h]
    have h2 : 0 ≤ left - (n : Int) := by omega
    go_enter Tryz.func41, Tryz.ntmps41
    go_wp2
    go_ret
    exact ⟨rfl, rfl⟩
  · rw [if_neg h]
    have h2 : left - (n : Int) < 0 := by omega
    go_enter Tryz.func41, Tryz.ntmps41
    go_wp2
    go_ret
    exact ⟨rfl, rfl⟩
theorem szVals_any (a : Option Addr) (n c : Nat) (left : Int) (w : World) (h0 : 0 ≤ left) (h1 : left ≤ 1048576) (hn : n ≤ 9223372036854775807) :
    Calls Tryz.prog 42 #[.slice a n c, .int .i64 left] w fun e w' => e = .returned (.int .i64 (if (n : Int) ≤ left then left - n else -1)) ∧ w' = w := by
  have hn' : (n : Int) ≤ 9223372036854775807 := by omega
  by_cases h : (n : Int) ≤ left
  · rw [if_pos h]
    have h2 : 0 ≤ left - (n : Int) := by omega
    go_enter Tryz.func42, Tryz.ntmps42
    go_wp2
    go_ret
    exact ⟨rfl, rfl⟩
  · rw [if_neg h]
    have h2 : left - (n : Int) < 0 := by omega
    go_enter Tryz.func42, Tryz.ntmps42
    go_wp2
    go_ret
    exact ⟨rfl, rfl⟩
theorem szArena_any (aw : Option Addr) (n cw : Nat) (semi toh top : Int) (cyc : Bool) (scan old copied serial : Int) (ar : Option Addr) (m cr : Nat) (w : World) (hn : n ≤ 9223372036854775807) (hm : m ≤ 9223372036854775807) :
    Calls Tryz.prog 13 #[.agg #[.slice aw n cw, .int .i64 semi, .int .i64 toh, .int .i64 top, .bool cyc, .int .i64 scan, .int .i64 old, .int .i64 copied, .int .i64 serial, .slice ar m cr], .int .i64 1048576] w fun e w' => e = .returned (.int .i64 (if (n : Int) + m ≤ 1048576 then 1048576 - n - m else -1)) ∧ Below w.heap.size w w' := by
  by_cases h1 : (n : Int) ≤ 1048576
  · by_cases h2 : (n : Int) + m ≤ 1048576
    · have g1 : ¬ (1048576 - (n : Int)) < 0 := by omega
      have g2 : ¬ (1048576 - (n : Int) - m) < 0 := by omega
      have e1 : (if (m : Int) ≤ 1048576 - (n : Int) then 1048576 - (n : Int) - m else -1) = 1048576 - (n : Int) - m := if_pos (by omega)
      rw [if_pos h2]
      go_enter Tryz.func13, Tryz.ntmps13
      go_wp2_with (first | (go_at_call 41; refine (szWords_any _ _ _ _ _ (by omega) (by omega) hn).mono ?_; rw [if_pos h1]; rintro e w1 ⟨rfl, rfl⟩) | (go_at_call 42; refine (szVals_any _ _ _ _ _ (by omega) (by omega) hm).mono ?_; rw [e1]; rintro e w2 ⟨rfl, rfl⟩))
      go_ret
      exact ⟨rfl, below_first (Below.refl _ _)⟩
    · have g1 : ¬ (1048576 - (n : Int)) < 0 := by omega
      have e1 : (if (m : Int) ≤ 1048576 - (n : Int) then 1048576 - (n : Int) - m else -1) = -1 := if_neg (by omega)
      rw [if_neg h2]
      go_enter Tryz.func13, Tryz.ntmps13
      go_wp2_with (first | (go_at_call 41; refine (szWords_any _ _ _ _ _ (by omega) (by omega) hn).mono ?_; rw [if_pos h1]; rintro e w1 ⟨rfl, rfl⟩) | (go_at_call 42; refine (szVals_any _ _ _ _ _ (by omega) (by omega) hm).mono ?_; rw [e1]; rintro e w2 ⟨rfl, rfl⟩))
      go_ret
      exact ⟨rfl, below_first (Below.refl _ _)⟩
  · have h2 : ¬ (n : Int) + m ≤ 1048576 := by omega
    rw [if_neg h2]
    go_enter Tryz.func13, Tryz.ntmps13
    go_wp2_with (first | (go_at_call 41; refine (szWords_any _ _ _ _ _ (by omega) (by omega) hn).mono ?_; rw [if_neg h1]; rintro e w1 ⟨rfl, rfl⟩))
    go_ret
    exact ⟨rfl, below_first (Below.refl _ _)⟩
theorem toWords_at (a : Option Addr) (cap : Nat) (zs : List Int) (w : World) (hs : Sl w (.slice a zs.length cap) zs) (hn : zs.length ≤ 1048576) :
    Calls Tryz.prog 51 #[.slice a zs.length cap] w fun e w' => e = .returned (.slice (some ⟨w.heap.size, 0, none⟩) zs.length zs.length) ∧ Own w.heap.size w' (.slice (some ⟨w.heap.size, 0, none⟩) zs.length zs.length) zs ∧ Below w.heap.size w w' := by
  obtain ⟨a', cap', he, hs⟩ := hs
  simp only [Value.slice.injEq] at he
  obtain ⟨rfl, _, rfl⟩ := he
  have hmk := fun (n : Nat) (hb : 8 * n ≤ 281474976710656) (h63 : n ≤ 9223372036854775807) (w : World) => run_make_row' (P := Tryz.prog) 22 80 (.int .u64 0) 8 Tryz.underlying22 info27 rfl .i64 .i64 n hb h63 w
  have hm1 := hmk zs.length (by omega) (by omega)
  clear hmk
  have hn' : (zs.length : Int) ≤ 1048576 := by omega
  go_enter Tryz.func51, Tryz.ntmps51
  go_wp2
  go_loopw [4] (fun i wr => ∃ k : Nat, k ≤ zs.length ∧ i = .int .i64 k ∧ Fill w wr zs.length zs k) (fun i _ => zs.length - (intOf i).toNat)
  case atStart => exact ⟨0, Nat.zero_le _, rfl, fill_start w _ _⟩
  case round =>
    obtain ⟨k, hk, rfl, hF⟩ := hrel
    by_cases hlt : k < zs.length
    · have hc1 := hF.2.cell hlt
      have hf1 := hF.2.frozen k
      rcases hs with rfl | ⟨b, off, rfl, hbl, hcell⟩
      · simp at hlt
      · have hc2 : wr.cell? ⟨b, off + k, none⟩ = some (.int .u64 (zs.getD k 0)) := by rw [hF.1.cell (p := ⟨b, off + k, none⟩) hbl]; exact hcell k hlt
        have hst := fill_step hF
        have hg : zs[k]?.getD 0 = zs[k] := by simp [hlt]
        go_wp2
        go_roundw
        case rel => exact ⟨k + 1, by omega, by go_num, by simpa [hlt] using hst⟩
        case measure => simp [intOf]; omega
    · go_wp2
      go_ret
      exact ⟨rfl, fill_end hF hlt, hF.1⟩
/-- A row of pairs that is filled: the first k pairs are those of y. -/
def FillV (w wr : World) (K n : Nat) (y : Nat → Int) (k : Nat) : Prop :=
  Below w.heap.size w wr ∧ wr.rowIs K 60 (n * 2) (fun j => .int .i64 (if j < 2 * k then y j else 0))
theorem fillV_step {w wr : World} {K n : Nat} {y : Nat → Int} {k : Nat} (h : FillV w wr K n y k) (hK : w.heap.size ≤ K) : FillV w ((wr.setCell ⟨K, k * 2, none⟩ (.int .i64 (y (2 * k)))).setCell ⟨K, k * 2 + 1, none⟩ (.int .i64 (y (2 * k + 1)))) K n y (k + 1) := by
  refine ⟨(h.1.setCell (p := ⟨K, k * 2, none⟩) hK _).setCell (p := ⟨K, k * 2 + 1, none⟩) hK _, ((h.2.set (k * 2) _).set (k * 2 + 1) _).congr fun j _ => ?_⟩
  by_cases e1 : j = k * 2 + 1
  · subst e1
    have : k * 2 + 1 < 2 * (k + 1) := by omega
    simp [this]
    congr 1
    omega
  · by_cases e2 : j = k * 2
    · subst e2
      have h1 : k * 2 < 2 * (k + 1) := by omega
      simp [h1]
      congr 1
      omega
    · by_cases e3 : j < 2 * k
      · have : j < 2 * (k + 1) := by omega
        simp [e1, e2, e3, this]
      · have : ¬ j < 2 * (k + 1) := by omega
        simp [e1, e2, e3, this]
theorem toVals_at (a : Option Addr) (n cap : Nat) (y : Nat → Int) (T : Nat) (w : World) (hs : SlF T w (.slice a n cap) n (2 * n) (fun i => .int .i64 (y i))) (hn : n ≤ 1048576) :
    Calls Tryz.prog 52 #[.slice a n cap] w fun e w' => e = .returned (.slice (some ⟨w.heap.size, 0, none⟩) n n) ∧ w'.rowIs w.heap.size 60 (n * 2) (fun i => .int .i64 (y i)) ∧ Below w.heap.size w w' := by
  have hn' : (n : Int) ≤ 1048576 := by omega
  have hm1 := makeVals (n : Int) (by omega) (by omega)
  rw [Int.toNat_natCast] at hm1
  have HS : Hid (SlF w.heap.size w (.slice a n cap) n (2 * n) (fun i => .int .i64 (y i))) := hs.here
  clear hs
  go_enter Tryz.func52, Tryz.ntmps52
  go_wp2
  go_loopw [4] (fun u4 wr => ∃ k : Nat, k ≤ n ∧ u4 = .int .i64 k ∧ FillV w wr w.heap.size n y k) (fun u4 _ => n - (intOf u4).toNat)
  case atStart => exact ⟨0, Nat.zero_le _, rfl, (Below.refl _ _).alloc (Nat.le_refl _) _, (rowIs_vals w (n * 2) 60).congr (fun i _ => by simp)⟩
  case round =>
    obtain ⟨k, hk, rfl, hF⟩ := hrel
    by_cases hlt : k < n
    · have hlt' : (k : Int) < (n : Int) := by omega
      obtain ⟨br, offr, cap', hv, _, lbr, hcr⟩ := HS.out.parts (k := 0) (by omega)
      simp only [Value.slice.injEq] at hv
      obtain ⟨rfl, _, rfl⟩ := hv
      have hc1 : wr.cell? ⟨br, offr + k * 2, none⟩ = some (.int .i64 (y (2 * k))) := by rw [hF.1.cell (p := ⟨br, offr + k * 2, none⟩) lbr, Nat.mul_comm]; exact hcr (2 * k) (by omega)
      have hd1 : wr.cell? ⟨br, offr + k * 2 + 1, none⟩ = some (.int .i64 (y (2 * k + 1))) := by rw [hF.1.cell (p := ⟨br, offr + k * 2 + 1, none⟩) lbr, Nat.mul_comm]; exact hcr (2 * k + 1) (by omega)
      have HF : Hid (FillV w wr w.heap.size n y k) := hF
      have lK : w.heap.size < wr.heap.size := hF.2.lt
      clear hF hcr HS hm1
      go_wp2_with (go_at_call 83; refine (toVal_any _ _ _).mono ?_; rintro e w1 ⟨rfl, b1⟩; have hF1 : FillV w w1 w.heap.size n y k := ⟨below_next HF.out.1 b1, HF.out.2.of_block (b1.block _ lK)⟩; have g0 := hF1.2.cell (i := k * 2) (by omega); have g1 := hF1.2.cell (i := k * 2 + 1) (by omega); have gf := hF1.2.frozen)
      exact ⟨⟨k + 1, hlt, by go_num, fillV_step hF1 (Nat.le_refl _)⟩, by simp [intOf]; omega⟩
    · have hge : (n : Int) ≤ (k : Int) := by omega
      have hkn : k = n := by omega
      have hR : wr.rowIs w.heap.size 60 (n * 2) (fun i => .int .i64 (y i)) := hF.2.congr (fun j hj => by rw [if_pos (by omega)])
      clear hkn
      go_wp2
      go_ret
      exact ⟨rfl, hR, hF.1⟩
end Go.Proofs.YtibjellhafndiaaGreatDoor

/- The law FnExactArenaOk, walked. -/
namespace Go.Proofs.YtibjellhafndiaaGreatDoor
set_option maxRecDepth 20000
open Go.RowKit
set_option linter.unusedSimpArgs false
set_option linter.unusedVariables false

theorem below_box {w W : World} {o : Obj} (h : Below w.heap.size w W) : Below w.heap.size w (W.alloc o) := h.alloc h.size o
end Go.Proofs.YtibjellhafndiaaGreatDoor
