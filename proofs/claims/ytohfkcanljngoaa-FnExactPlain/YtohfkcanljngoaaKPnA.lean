/- The laws' own helpers over []Act: size, copy, eq of two alike, mark, held. -/
import Derived.Test.YtohfkcanljngoaaProg
import Derived.Test.YtohfkcanljngoaaKRowF
import Derived.Laws.MakeOwn
import Derived.Deep.CutRange
import Derived.WalkKit
import Derived.WalkSpells
import Derived.WalkLawsBesides
import Derived.Below
import Derived.Outline
import Derived.Deep.Light
import Derived.Deep.OwnRows
import Derived.Deep.QuietTactic
import Derived.BigQuiet
import Derived.Deep.RegionWith
namespace Go.Proofs.Ytohfkcanljngoaa
set_option maxRecDepth 20000
open Go.RowKit
set_option linter.unusedSimpArgs false
set_option linter.unusedVariables false

theorem infoAct : (Try.prog.info? 31).map (fun i => (i.zero, i.size, i.bytes)) = some (some (.agg #[.int .i64 0, .int .i64 0]), 2, 16) := by kernel_rfl
theorem makeActs (l : Int) (h0 : 0 ≤ l) (h1 : l ≤ 1048576) (w : World) : (Instr.makeSlice 24 (.int .i64 l) (.int .i64 l)).run Try.prog w = .ok (.slice (some ⟨w.heap.size, 0, none⟩) l.toNat l.toNat) (w.alloc (.cells (madeCells #[.int .i64 0, .int .i64 0] (l.toNat * 2)) 31)) := by
  obtain ⟨i, hi, hzz⟩ := Option.map_eq_some_iff.1 infoAct
  simp only [Prod.mk.injEq] at hzz
  obtain ⟨hz, hs, hb⟩ := hzz
  have := run_make (P := Try.prog) w 24 31 i _ Try.underlying24 hi hz .i64 .i64 l l h0 (Int.le_refl _) (by rw [hb]; omega) (by omega)
  rw [hs] at this
  exact this
theorem rowIs_acts (w : World) (n : Nat) (t : TypeId) : (w.alloc (.cells (madeCells #[.int .i64 0, .int .i64 0] n) t)).rowIs w.heap.size t n (fun _ => .int .i64 0) :=
  ⟨_, Go.Deep.blk_alloc_new _ _, size_madeCells _ _, fun i hi => by
    have h : i % 2 = 0 ∨ i % 2 = 1 := by omega
    rcases h with h | h <;> simp [madeCells, hi, h]⟩

theorem toAct_any (t n : Int) (w : World) :
    Calls Try.prog 11 #[.agg #[.int .i64 t, .int .i64 n]] w fun e w' => e = .returned (.agg #[.int .i64 t, .int .i64 n]) ∧ Below w.heap.size w w' := by
  go_enter Try.func11, Try.ntmps11
  go_wp2
  exact bodyPost_ret (v := .agg #[.int .i64 t, .int .i64 n]) (by simp [results, Try.results11, go_sem]) rfl ⟨rfl, (((Below.refl _ _).alloc (Nat.le_refl _) _).alloc (by simp) _).alloc (by simp; omega) _⟩
theorem szActs_any (a : Option Addr) (n c : Nat) (left : Int) (w : World) (h0 : 0 ≤ left) (h1 : left ≤ 1048576) (hn : n ≤ 9223372036854775807) :
    Calls Try.prog 4 #[.slice a n c, .int .i64 left] w fun e w' => e = .returned (.int .i64 (if (n : Int) ≤ left then left - n else -1)) ∧ w' = w := by
  have hn' : (n : Int) ≤ 9223372036854775807 := by omega
  by_cases h : (n : Int) ≤ left
  · rw [if_pos h]
    have h2 : 0 ≤ left - (n : Int) := by omega
    go_enter Try.func4, Try.ntmps4
    go_wp2
    go_ret
    exact ⟨rfl, rfl⟩
  · rw [if_neg h]
    have h2 : left - (n : Int) < 0 := by omega
    go_enter Try.func4, Try.ntmps4
    go_wp2
    go_ret
    exact ⟨rfl, rfl⟩
def FillA (w wr : World) (K n : Nat) (y : Nat → Int) (k : Nat) : Prop :=
  Below w.heap.size w wr ∧ wr.rowIs K 31 (n * 2) (fun j => .int .i64 (if j < 2 * k then y j else 0))
theorem fillA_step {w wr : World} {K n : Nat} {y : Nat → Int} {k : Nat} (h : FillA w wr K n y k) (hK : w.heap.size ≤ K) : FillA w ((wr.setCell ⟨K, k * 2, none⟩ (.int .i64 (y (2 * k)))).setCell ⟨K, k * 2 + 1, none⟩ (.int .i64 (y (2 * k + 1)))) K n y (k + 1) := by
  refine ⟨(h.1.setCell (p := ⟨K, k * 2, none⟩) hK _).setCell (p := ⟨K, k * 2 + 1, none⟩) hK _, ((h.2.set (k * 2) _).set (k * 2 + 1) _).congr fun j _ => ?_⟩
  by_cases e1 : j = k * 2 + 1
  · subst e1
    have : k * 2 + 1 < 2 * (k + 1) := by omega
    simp [this]
    congr 1
    omega
  · by_cases e2 : j = k * 2
    · subst e2
      have h1 : k * 2 < 2 * (k + 1) := by omega
      simp [h1]
      congr 1
      omega
    · by_cases e3 : j < 2 * k
      · have : j < 2 * (k + 1) := by omega
        simp [e1, e2, e3, this]
      · have : ¬ j < 2 * (k + 1) := by omega
        simp [e1, e2, e3, this]
theorem toActs_at (a : Option Addr) (n cap : Nat) (y : Nat → Int) (T : Nat) (w : World) (hs : SlF T w (.slice a n cap) n (2 * n) (fun i => .int .i64 (y i))) (hn : n ≤ 1048576) :
    Calls Try.prog 6 #[.slice a n cap] w fun e w' => e = .returned (.slice (some ⟨w.heap.size, 0, none⟩) n n) ∧ w'.rowIs w.heap.size 31 (n * 2) (fun i => .int .i64 (y i)) ∧ Below w.heap.size w w' := by
  have hn' : (n : Int) ≤ 1048576 := by omega
  have hm1 := makeActs (n : Int) (by omega) (by omega)
  rw [Int.toNat_natCast] at hm1
  have HS : Hid (SlF w.heap.size w (.slice a n cap) n (2 * n) (fun i => .int .i64 (y i))) := hs.here
  clear hs
  go_enter Try.func6, Try.ntmps6
  go_wp2
  go_loopw [4] (fun u4 wr => ∃ k : Nat, k ≤ n ∧ u4 = .int .i64 k ∧ FillA w wr w.heap.size n y k) (fun u4 _ => n - (intOf u4).toNat)
  case atStart => exact ⟨0, Nat.zero_le _, rfl, (Below.refl _ _).alloc (Nat.le_refl _) _, (rowIs_acts w (n * 2) 31).congr (fun i _ => by simp)⟩
  case round =>
    obtain ⟨k, hk, rfl, hF⟩ := hrel
    by_cases hlt : k < n
    · have hlt' : (k : Int) < (n : Int) := by omega
      obtain ⟨br, offr, cap', hv, _, lbr, hcr⟩ := HS.out.parts (k := 0) (by omega)
      simp only [Value.slice.injEq] at hv
      obtain ⟨rfl, _, rfl⟩ := hv
      have hc1 : wr.cell? ⟨br, offr + k * 2, none⟩ = some (.int .i64 (y (2 * k))) := by rw [hF.1.cell (p := ⟨br, offr + k * 2, none⟩) lbr, Nat.mul_comm]; exact hcr (2 * k) (by omega)
      have hd1 : wr.cell? ⟨br, offr + k * 2 + 1, none⟩ = some (.int .i64 (y (2 * k + 1))) := by rw [hF.1.cell (p := ⟨br, offr + k * 2 + 1, none⟩) lbr, Nat.mul_comm]; exact hcr (2 * k + 1) (by omega)
      have HF : Hid (FillA w wr w.heap.size n y k) := hF
      have lK : w.heap.size < wr.heap.size := hF.2.lt
      clear hF hcr HS hm1
      go_wp2_with (go_at_call 11; refine (toAct_any _ _ _).mono ?_; rintro e w1 ⟨rfl, b1⟩; have hF1 : FillA w w1 w.heap.size n y k := ⟨below_next HF.out.1 b1, HF.out.2.of_block (b1.block _ lK)⟩; have g0 := hF1.2.cell (i := k * 2) (by omega); have g1 := hF1.2.cell (i := k * 2 + 1) (by omega); have gf := hF1.2.frozen)
      exact ⟨⟨k + 1, hlt, by go_num, fillA_step hF1 (Nat.le_refl _)⟩, by simp [intOf]; omega⟩
    · have hge : (n : Int) ≤ (k : Int) := by omega
      have hkn : k = n := by omega
      have hR : wr.rowIs w.heap.size 31 (n * 2) (fun i => .int .i64 (y i)) := hF.2.congr (fun j hj => by rw [if_pos (by omega)])
      clear hkn
      go_wp2
      go_ret
      exact ⟨rfl, hR, hF.1⟩
theorem eqAct_twin (t n : Int) (w : World) :
    Calls Try.prog 12 #[.agg #[.int .i64 t, .int .i64 n], .agg #[.int .i64 t, .int .i64 n]] w fun e w' => e = .returned (.bool true) ∧ Below w.heap.size w w' := by
  go_enter Try.func12, Try.ntmps12
  go_wp2
  go_ret
  exact ⟨rfl, ((Below.refl _ _).alloc (Nat.le_refl _) _).alloc (by simp) _⟩

theorem eqActS_same (T1 T2 : Nat) (v1 v2 : Value) (n : Nat) (z : Nat → Int) (w : World) (h1 : SlF T1 w v1 n (2 * n) (fun i => .int .i64 (z i))) (h2 : SlF T2 w v2 n (2 * n) (fun i => .int .i64 (z i))) (hn : n ≤ 1048576) :
    Calls Try.prog 8 #[v1, v2] w fun e w' => e = .returned (.bool true) ∧ Below w.heap.size w w' := by
  obtain ⟨a1, c1, rfl, h1⟩ := h1
  obtain ⟨a2, c2, rfl, h2⟩ := h2
  have hn' : (n : Int) ≤ 1048576 := by omega
  go_enter Try.func8, Try.ntmps8
  go_wp2
  go_loopw [5] (fun i wr => ∃ k : Nat, k ≤ n ∧ i = .int .i64 k ∧ Below w.heap.size w wr) (fun i _ => n - (intOf i).toNat)
  case atStart => exact ⟨0, Nat.zero_le _, rfl, Below.refl _ _⟩
  case round =>
    obtain ⟨k, hk, rfl, hF⟩ := hrel
    by_cases hlt : k < n
    · rcases h1 with h | ⟨b1, o1, rfl, _, l1, g1⟩
      · omega
      rcases h2 with h | ⟨b2, o2, rfl, _, l2, g2⟩
      · omega
      have hc1 : wr.cell? ⟨b1, o1 + k * 2, none⟩ = some (.int .i64 (z (2 * k))) := by rw [hF.cell (p := ⟨b1, o1 + k * 2, none⟩) l1, Nat.mul_comm]; exact g1 (2 * k) (by omega)
      have hc2 : wr.cell? ⟨b2, o2 + k * 2, none⟩ = some (.int .i64 (z (2 * k))) := by rw [hF.cell (p := ⟨b2, o2 + k * 2, none⟩) l2, Nat.mul_comm]; exact g2 (2 * k) (by omega)
      have hd1 : wr.cell? ⟨b1, o1 + k * 2 + 1, none⟩ = some (.int .i64 (z (2 * k + 1))) := by rw [hF.cell (p := ⟨b1, o1 + k * 2 + 1, none⟩) l1, Nat.mul_comm]; exact g1 (2 * k + 1) (by omega)
      have hd2 : wr.cell? ⟨b2, o2 + k * 2 + 1, none⟩ = some (.int .i64 (z (2 * k + 1))) := by rw [hF.cell (p := ⟨b2, o2 + k * 2 + 1, none⟩) l2, Nat.mul_comm]; exact g2 (2 * k + 1) (by omega)
      have hlt' : (k : Int) < (n : Int) := by omega
      clear g1 g2
      go_wp2
      go_region_with (go_at_call 12; refine (eqAct_twin _ _ _).mono ?_; rintro e w' ⟨rfl, hb⟩)
      all_goals
        have hB := below_next hF.drew hb
        go_wp2
        go_roundw
        case rel => exact ⟨k + 1, by omega, by go_num, hB⟩
        case measure => simp [intOf]; omega
    · go_wp2
      go_ret
      exact ⟨rfl, hF⟩

theorem markActS_any (B T : Nat) (v : Value) (n : Nat) (z : Nat → Int) (k0 : Int) (w : World) (h : OwnF B T 31 w v n (2 * n) (fun i => .int .i64 (z i))) (hn : n ≤ 1048576) (hk0 : 0 ≤ k0) (hk1 : k0 ≤ 4194304) :
    Calls Try.prog 9 #[v, .int .i64 k0] w fun e w' => e = .returned (.int .i64 (k0 + 2 * n)) ∧ OwnF B T 31 w' v n (2 * n) (fun i => .int .i64 (k0 + i)) ∧ Outside B T w w' := by
  obtain ⟨a, cap, rfl, h⟩ := h
  have hn' : (n : Int) ≤ 1048576 := by omega
  have hst := markRelF_start (w := w) (u := fun i => .int .i64 (k0 + i)) h
  clear h
  go_enter Try.func9, Try.ntmps9
  go_wp2
  go_loopw [1, 5] (fun q i wr => ∃ k : Nat, k ≤ n ∧ i = .int .i64 k ∧ q = .int .i64 (k0 + 2 * k) ∧ MarkRelF B T 31 w wr a (2 * n) (fun i => .int .i64 (z i)) (fun i => .int .i64 (k0 + i)) (k * 2)) (fun _ i _ => n - (intOf i).toNat)
  case atStart => exact ⟨0, Nat.zero_le _, rfl, by simp, hst⟩
  case round =>
    obtain ⟨k, hk, rfl, rfl, hR⟩ := hrel
    by_cases hlt : k < n
    · have hR' := hR.2
      rcases hR' with h0 | ⟨b, M, g, rfl, hB, hT, hm, hF, hf⟩
      · omega
      have hc1 : wr.cell? ⟨b, k * 2, none⟩ = some (.int .i64 (z (k * 2))) := by rw [hF.2.cell (by omega), if_neg (by omega), hf _ (by omega)]
      have hc2 : wr.cell? ⟨b, k * 2 + 1, none⟩ = some (.int .i64 (z (k * 2 + 1))) := by rw [hF.2.cell (by omega), if_neg (by omega), hf _ (by omega)]
      have hf1 := hF.2.frozen (k * 2)
      have hf2 := hF.2.frozen (k * 2 + 1)
      have hst := markedF_step (markedF_step hF hB hT) hB hT
      have e1 : ((k * 2 : Nat) : Int) = 2 * k := by omega
      have e2 : ((k * 2 + 1 : Nat) : Int) = 2 * k + 1 := by omega
      rw [e1, e2] at hst
      have hlt' : (k : Int) < (n : Int) := by omega
      clear e1 e2
      go_wp2
      go_roundw
      case rel => exact ⟨k + 1, by omega, by go_num, by go_num, by simpa [Int.add_assoc, Nat.add_mul] using hst.1, .inr ⟨b, M, g, rfl, hB, hT, hm, by simpa [Int.add_assoc, Nat.add_mul] using hst, hf⟩⟩
      case measure => simp [intOf]; omega
    · have hkk : k = n := by omega
      go_wp2
      go_ret
      exact ⟨ret_int (by omega), markRelF_end hR (by omega), hR.1⟩

theorem heldActS_any (T : Nat) (v : Value) (n : Nat) (k0 : Int) (w : World) (h : SlF T w v n (2 * n) (fun i => .int .i64 (k0 + i))) (hn : n ≤ 1048576) (hk0 : 0 ≤ k0) (hk1 : k0 ≤ 4194304) :
    Calls Try.prog 10 #[v, .int .i64 k0] w fun e w' => e = .returned (.int .i64 (k0 + 2 * n)) ∧ Below w.heap.size w w' := by
  obtain ⟨a, cap, rfl, h⟩ := h
  have hn' : (n : Int) ≤ 1048576 := by omega
  go_enter Try.func10, Try.ntmps10
  go_wp2
  go_loopw [1, 5] (fun q i wr => ∃ k : Nat, k ≤ n ∧ i = .int .i64 k ∧ q = .int .i64 (k0 + 2 * k) ∧ Below w.heap.size w wr) (fun _ i _ => n - (intOf i).toNat)
  case atStart => exact ⟨0, Nat.zero_le _, rfl, by simp, Below.refl _ _⟩
  case round =>
    obtain ⟨k, hk, rfl, rfl, hF⟩ := hrel
    by_cases hlt : k < n
    · rcases h with h | ⟨b, off, rfl, _, hl, hc⟩
      · omega
      have hc1 : wr.cell? ⟨b, off + k * 2, none⟩ = some (.int .i64 (k0 + 2 * k)) := by
        rw [hF.cell (p := ⟨b, off + k * 2, none⟩) hl, hc (k * 2) (by omega), show ((k * 2 : Nat) : Int) = 2 * k by omega]
      have hc2 : wr.cell? ⟨b, off + k * 2 + 1, none⟩ = some (.int .i64 (k0 + 2 * k + 1)) := by
        rw [hF.cell (p := ⟨b, off + k * 2 + 1, none⟩) hl, Nat.add_assoc, hc (k * 2 + 1) (by omega), show k0 + ((k * 2 + 1 : Nat) : Int) = k0 + 2 * k + 1 by omega]
      clear hc
      have hlt' : (k : Int) < (n : Int) := by omega
      go_wp2
      go_roundw
      case rel => exact ⟨k + 1, by omega, by go_num, by go_num, hF⟩
      case measure => simp [intOf]; omega
    · have hkk : k = n := by omega
      go_wp2
      go_ret
      exact ⟨ret_int (by omega), hF⟩
end Go.Proofs.Ytohfkcanljngoaa
