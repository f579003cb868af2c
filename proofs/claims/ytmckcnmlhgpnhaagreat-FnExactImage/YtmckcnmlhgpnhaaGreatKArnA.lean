/- The laws' own helpers over []uint64 and []Val, by cells: eq of two alike, mark, held; and over arenas. -/
import Derived.Test.YtmckcnmlhgpnhaaGreatProg
import Derived.Test.YtmckcnmlhgpnhaaGreatKRowF
import Derived.WalkKit
import Derived.WalkSpells
import Derived.WalkLawsBesides
import Derived.Below
import Derived.Outline
import Derived.Deep.Light
import Derived.Deep.OwnRows
import Derived.Deep.QuietTactic
import Derived.BigQuiet
import Derived.Deep.RegionWith
namespace Go.Proofs.YtmckcnmlhgpnhaaGreat
set_option maxRecDepth 20000
open Go.RowKit
set_option linter.unusedSimpArgs false
set_option linter.unusedVariables false

theorem eqU64S_same (T1 T2 : Nat) (v1 v2 : Value) (n : Nat) (z : Nat → Int) (w : World) (h1 : SlF T1 w v1 n n (fun i => .int .u64 (z i))) (h2 : SlF T2 w v2 n n (fun i => .int .u64 (z i))) (hn : n ≤ 1048576) :
    Calls Tryz.prog 52 #[v1, v2] w fun e w' => e = .returned (.bool true) ∧ Below w.heap.size w w' := by
  obtain ⟨a1, c1, rfl, h1⟩ := h1
  obtain ⟨a2, c2, rfl, h2⟩ := h2
  have hn' : (n : Int) ≤ 1048576 := by omega
  go_enter Tryz.func52, Tryz.ntmps52
  go_wp2
  go_loopw [5] (fun i wr => ∃ k : Nat, k ≤ n ∧ i = .int .i64 k ∧ Below w.heap.size w wr) (fun i _ => n - (intOf i).toNat)
  case atStart => exact ⟨0, Nat.zero_le _, rfl, Below.refl _ _⟩
  case round =>
    obtain ⟨k, hk, rfl, hF⟩ := hrel
    by_cases hlt : k < n
    · rcases h1 with rfl | ⟨b1, o1, rfl, _, l1, g1⟩
      · simp at hlt
      rcases h2 with rfl | ⟨b2, o2, rfl, _, l2, g2⟩
      · simp at hlt
      have hc1 : wr.cell? ⟨b1, o1 + k, none⟩ = some (.int .u64 (z k)) := by rw [hF.cell (p := ⟨b1, o1 + k, none⟩) l1]; exact g1 k hlt
      have hc2 : wr.cell? ⟨b2, o2 + k, none⟩ = some (.int .u64 (z k)) := by rw [hF.cell (p := ⟨b2, o2 + k, none⟩) l2]; exact g2 k hlt
      have hlt' : (k : Int) < (n : Int) := by omega
      clear g1 g2
      go_wp2
      go_quiet (fail)
      go_wp2
      go_roundw
      case rel => exact ⟨k + 1, by omega, by go_num, below_drewN hF _⟩
      case measure => simp [intOf]; omega
    · go_wp2
      go_ret
      exact ⟨rfl, hF⟩

theorem markU64S_any (B T : Nat) (v : Value) (n : Nat) (z : Nat → Int) (k0 : Int) (w : World) (h : OwnF B T 100 w v n n (fun i => .int .u64 (z i))) (hn : n ≤ 1048576) (hk0 : 0 ≤ k0) (hk1 : k0 ≤ 4194304) :
    Calls Tryz.prog 73 #[v, .int .i64 k0] w fun e w' => e = .returned (.int .i64 (k0 + n)) ∧ OwnF B T 100 w' v n n (fun i => .int .u64 (k0 + i)) ∧ Outside B T w w' := by
  obtain ⟨a, cap, rfl, h⟩ := h
  have hn' : (n : Int) ≤ 1048576 := by omega
  have hst := markRelF_start (w := w) (u := fun i => .int .u64 (k0 + i)) h
  clear h
  go_enter Tryz.func73, Tryz.ntmps73
  go_wp2
  go_loopw [1, 5] (fun q i wr => ∃ k : Nat, k ≤ n ∧ i = .int .i64 k ∧ q = .int .i64 (k0 + k) ∧ MarkRelF B T 100 w wr a n (fun i => .int .u64 (z i)) (fun i => .int .u64 (k0 + i)) k) (fun _ i _ => n - (intOf i).toNat)
  case atStart => exact ⟨0, Nat.zero_le _, rfl, by simp, hst⟩
  case round =>
    obtain ⟨k, hk, rfl, rfl, hR⟩ := hrel
    by_cases hlt : k < n
    · have hR' := hR.2
      rcases hR' with h0 | ⟨b, M, g, rfl, hB, hT, hm, hF, hf⟩
      · omega
      have hc1 : wr.cell? ⟨b, k, none⟩ = some (if k < k then .int .u64 (k0 + k) else g k) := hF.2.cell (by omega)
      rw [if_neg (Nat.lt_irrefl k), hf k hlt] at hc1
      have hf1 := hF.2.frozen k
      have hst := markedF_step hF hB hT
      have hlt' : (k : Int) < (n : Int) := by omega
      have hz0 : 0 ≤ k0 + (k : Int) := by omega
      have hz1 : k0 + (k : Int) ≤ 5242880 := by omega
      go_wp2
      go_roundw
      case rel => exact ⟨k + 1, by omega, by go_num, by go_num, hst.1, .inr ⟨b, M, g, rfl, hB, hT, hm, hst, hf⟩⟩
      case measure => simp [intOf]; omega
    · have hkk : k = n := by omega
      go_wp2
      go_ret
      exact ⟨ret_int (by omega), markRelF_end hR (by omega), hR.1⟩

theorem heldU64S_any (T : Nat) (v : Value) (n : Nat) (k0 : Int) (w : World) (h : SlF T w v n n (fun i => .int .u64 (k0 + i))) (hn : n ≤ 1048576) (hk0 : 0 ≤ k0) (hk1 : k0 ≤ 4194304) :
    Calls Tryz.prog 78 #[v, .int .i64 k0] w fun e w' => e = .returned (.int .i64 (k0 + n)) ∧ Below w.heap.size w w' := by
  obtain ⟨a, cap, rfl, h⟩ := h
  have hn' : (n : Int) ≤ 1048576 := by omega
  go_enter Tryz.func78, Tryz.ntmps78
  go_wp2
  go_loopw [1, 5] (fun q i wr => ∃ k : Nat, k ≤ n ∧ i = .int .i64 k ∧ q = .int .i64 (k0 + k) ∧ Below w.heap.size w wr) (fun _ i _ => n - (intOf i).toNat)
  case atStart => exact ⟨0, Nat.zero_le _, rfl, by simp, Below.refl _ _⟩
  case round =>
    obtain ⟨k, hk, rfl, rfl, hF⟩ := hrel
    by_cases hlt : k < n
    · rcases h with h | ⟨b, off, rfl, _, hl, hc⟩
      · omega
      have hc1 : wr.cell? ⟨b, off + k, none⟩ = some (.int .u64 (k0 + k)) := by
        rw [hF.cell (p := ⟨b, off + k, none⟩) hl, hc k hlt]
      clear hc
      have hlt' : (k : Int) < (n : Int) := by omega
      have hz0 : 0 ≤ k0 + (k : Int) := by omega
      have hz1 : k0 + (k : Int) ≤ 5242880 := by omega
      go_wp2
      go_roundw
      case rel => exact ⟨k + 1, by omega, by go_num, by go_num, hF⟩
      case measure => simp [intOf]; omega
    · have hkk : k = n := by omega
      go_wp2
      go_ret
      exact ⟨ret_int (by omega), hF⟩

theorem eqVal_twin (t n : Int) (w : World) :
    Calls Tryz.prog 64 #[.agg #[.int .i64 t, .int .i64 n], .agg #[.int .i64 t, .int .i64 n]] w fun e w' => e = .returned (.bool true) ∧ Below w.heap.size w w' := by
  go_enter Tryz.func64, Tryz.ntmps64
  go_wp2
  go_ret
  exact ⟨rfl, ((Below.refl _ _).alloc (Nat.le_refl _) _).alloc (by simp) _⟩

theorem eqValS_same (T1 T2 : Nat) (v1 v2 : Value) (n : Nat) (z : Nat → Int) (w : World) (h1 : SlF T1 w v1 n (2 * n) (fun i => .int .i64 (z i))) (h2 : SlF T2 w v2 n (2 * n) (fun i => .int .i64 (z i))) (hn : n ≤ 1048576) :
    Calls Tryz.prog 53 #[v1, v2] w fun e w' => e = .returned (.bool true) ∧ Below w.heap.size w w' := by
  obtain ⟨a1, c1, rfl, h1⟩ := h1
  obtain ⟨a2, c2, rfl, h2⟩ := h2
  have hn' : (n : Int) ≤ 1048576 := by omega
  go_enter Tryz.func53, Tryz.ntmps53
  go_wp2
  go_loopw [5] (fun i wr => ∃ k : Nat, k ≤ n ∧ i = .int .i64 k ∧ Below w.heap.size w wr) (fun i _ => n - (intOf i).toNat)
  case atStart => exact ⟨0, Nat.zero_le _, rfl, Below.refl _ _⟩
  case round =>
    obtain ⟨k, hk, rfl, hF⟩ := hrel
    by_cases hlt : k < n
    · rcases h1 with h | ⟨b1, o1, rfl, _, l1, g1⟩
      · omega
      rcases h2 with h | ⟨b2, o2, rfl, _, l2, g2⟩
      · omega
      have hc1 : wr.cell? ⟨b1, o1 + k * 2, none⟩ = some (.int .i64 (z (2 * k))) := by rw [hF.cell (p := ⟨b1, o1 + k * 2, none⟩) l1, Nat.mul_comm]; exact g1 (2 * k) (by omega)
      have hc2 : wr.cell? ⟨b2, o2 + k * 2, none⟩ = some (.int .i64 (z (2 * k))) := by rw [hF.cell (p := ⟨b2, o2 + k * 2, none⟩) l2, Nat.mul_comm]; exact g2 (2 * k) (by omega)
      have hd1 : wr.cell? ⟨b1, o1 + k * 2 + 1, none⟩ = some (.int .i64 (z (2 * k + 1))) := by rw [hF.cell (p := ⟨b1, o1 + k * 2 + 1, none⟩) l1, Nat.mul_comm]; exact g1 (2 * k + 1) (by omega)
      have hd2 : wr.cell? ⟨b2, o2 + k * 2 + 1, none⟩ = some (.int .i64 (z (2 * k + 1))) := by rw [hF.cell (p := ⟨b2, o2 + k * 2 + 1, none⟩) l2, Nat.mul_comm]; exact g2 (2 * k + 1) (by omega)
      have hlt' : (k : Int) < (n : Int) := by omega
      clear g1 g2
      go_wp2
      go_region_with (go_at_call 64; refine (eqVal_twin _ _ _).mono ?_; rintro e w' ⟨rfl, hb⟩)
      all_goals
        have hB := below_next hF.drew hb
        go_wp2
        go_roundw
        case rel => exact ⟨k + 1, by omega, by go_num, hB⟩
        case measure => simp [intOf]; omega
    · go_wp2
      go_ret
      exact ⟨rfl, hF⟩

theorem markValS_any (B T : Nat) (v : Value) (n : Nat) (z : Nat → Int) (k0 : Int) (w : World) (h : OwnF B T 48 w v n (2 * n) (fun i => .int .i64 (z i))) (hn : n ≤ 1048576) (hk0 : 0 ≤ k0) (hk1 : k0 ≤ 4194304) :
    Calls Tryz.prog 74 #[v, .int .i64 k0] w fun e w' => e = .returned (.int .i64 (k0 + 2 * n)) ∧ OwnF B T 48 w' v n (2 * n) (fun i => .int .i64 (k0 + i)) ∧ Outside B T w w' := by
  obtain ⟨a, cap, rfl, h⟩ := h
  have hn' : (n : Int) ≤ 1048576 := by omega
  have hst := markRelF_start (w := w) (u := fun i => .int .i64 (k0 + i)) h
  clear h
  go_enter Tryz.func74, Tryz.ntmps74
  go_wp2
  go_loopw [1, 5] (fun q i wr => ∃ k : Nat, k ≤ n ∧ i = .int .i64 k ∧ q = .int .i64 (k0 + 2 * k) ∧ MarkRelF B T 48 w wr a (2 * n) (fun i => .int .i64 (z i)) (fun i => .int .i64 (k0 + i)) (k * 2)) (fun _ i _ => n - (intOf i).toNat)
  case atStart => exact ⟨0, Nat.zero_le _, rfl, by simp, hst⟩
  case round =>
    obtain ⟨k, hk, rfl, rfl, hR⟩ := hrel
    by_cases hlt : k < n
    · have hR' := hR.2
      rcases hR' with h0 | ⟨b, M, g, rfl, hB, hT, hm, hF, hf⟩
      · omega
      have hc1 : wr.cell? ⟨b, k * 2, none⟩ = some (.int .i64 (z (k * 2))) := by rw [hF.2.cell (by omega), if_neg (by omega), hf _ (by omega)]
      have hc2 : wr.cell? ⟨b, k * 2 + 1, none⟩ = some (.int .i64 (z (k * 2 + 1))) := by rw [hF.2.cell (by omega), if_neg (by omega), hf _ (by omega)]
      have hf1 := hF.2.frozen (k * 2)
      have hf2 := hF.2.frozen (k * 2 + 1)
      have hst := markedF_step (markedF_step hF hB hT) hB hT
      have e1 : ((k * 2 : Nat) : Int) = 2 * k := by omega
      have e2 : ((k * 2 + 1 : Nat) : Int) = 2 * k + 1 := by omega
      rw [e1, e2] at hst
      have hlt' : (k : Int) < (n : Int) := by omega
      clear e1 e2
      go_wp2
      go_roundw
      case rel => exact ⟨k + 1, by omega, by go_num, by go_num, by simpa [Int.add_assoc, Nat.add_mul] using hst.1, .inr ⟨b, M, g, rfl, hB, hT, hm, by simpa [Int.add_assoc, Nat.add_mul] using hst, hf⟩⟩
      case measure => simp [intOf]; omega
    · have hkk : k = n := by omega
      go_wp2
      go_ret
      exact ⟨ret_int (by omega), markRelF_end hR (by omega), hR.1⟩

theorem heldValS_any (T : Nat) (v : Value) (n : Nat) (k0 : Int) (w : World) (h : SlF T w v n (2 * n) (fun i => .int .i64 (k0 + i))) (hn : n ≤ 1048576) (hk0 : 0 ≤ k0) (hk1 : k0 ≤ 4194304) :
    Calls Tryz.prog 79 #[v, .int .i64 k0] w fun e w' => e = .returned (.int .i64 (k0 + 2 * n)) ∧ Below w.heap.size w w' := by
  obtain ⟨a, cap, rfl, h⟩ := h
  have hn' : (n : Int) ≤ 1048576 := by omega
  go_enter Tryz.func79, Tryz.ntmps79
  go_wp2
  go_loopw [1, 5] (fun q i wr => ∃ k : Nat, k ≤ n ∧ i = .int .i64 k ∧ q = .int .i64 (k0 + 2 * k) ∧ Below w.heap.size w wr) (fun _ i _ => n - (intOf i).toNat)
  case atStart => exact ⟨0, Nat.zero_le _, rfl, by simp, Below.refl _ _⟩
  case round =>
    obtain ⟨k, hk, rfl, rfl, hF⟩ := hrel
    by_cases hlt : k < n
    · rcases h with h | ⟨b, off, rfl, _, hl, hc⟩
      · omega
      have hc1 : wr.cell? ⟨b, off + k * 2, none⟩ = some (.int .i64 (k0 + 2 * k)) := by
        rw [hF.cell (p := ⟨b, off + k * 2, none⟩) hl, hc (k * 2) (by omega), show ((k * 2 : Nat) : Int) = 2 * k by omega]
      have hc2 : wr.cell? ⟨b, off + k * 2 + 1, none⟩ = some (.int .i64 (k0 + 2 * k + 1)) := by
        rw [hF.cell (p := ⟨b, off + k * 2 + 1, none⟩) hl, Nat.add_assoc, hc (k * 2 + 1) (by omega), show k0 + ((k * 2 + 1 : Nat) : Int) = k0 + 2 * k + 1 by omega]
      clear hc
      have hlt' : (k : Int) < (n : Int) := by omega
      go_wp2
      go_roundw
      case rel => exact ⟨k + 1, by omega, by go_num, by go_num, hF⟩
      case measure => simp [intOf]; omega
    · have hkk : k = n := by omega
      go_wp2
      go_ret
      exact ⟨ret_int (by omega), hF⟩
end Go.Proofs.YtmckcnmlhgpnhaaGreat

/- The laws' own helpers over arenas: eqArena of two alike, markArena, heldArena. -/
namespace Go.Proofs.YtmckcnmlhgpnhaaGreat
set_option maxRecDepth 20000
open Go.RowKit
set_option linter.unusedSimpArgs false
set_option linter.unusedVariables false

theorem two_cells {w w' : World} {A B : Array Value} {t : TypeId} (hB : Below ((w.alloc (.cells A t)).alloc (.cells B t)).heap.size ((w.alloc (.cells A t)).alloc (.cells B t)) w') :
    (∀ i, w'.cell? ⟨w.heap.size, i, none⟩ = A[i]?) ∧ (∀ i, w'.cell? ⟨w.heap.size + 1, i, none⟩ = B[i]?) := by
  refine ⟨fun i => ?_, fun i => ?_⟩
  · rw [hB.cell (p := ⟨w.heap.size, i, none⟩) (by simp; omega)]; simp [go_sem]
  · rw [hB.cell (p := ⟨w.heap.size + 1, i, none⟩) (by simp)]; simp [go_sem]

theorem eqArena_same (T1 T2 T3 T4 : Nat) (w1 r1 w2 r2 : Value) (n m : Nat) (z y : Nat → Int) (semi toh top : Int) (cyc : Bool) (scan old copied serial : Int) (w : World)
    (h1 : SlF T1 w w1 n n (fun i => .int .u64 (z i))) (h2 : SlF T2 w w2 n n (fun i => .int .u64 (z i))) (hn : n ≤ 1048576)
    (g1 : SlF T3 w r1 m (2 * m) (fun i => .int .i64 (y i))) (g2 : SlF T4 w r2 m (2 * m) (fun i => .int .i64 (y i))) (hm : m ≤ 1048576) :
    Calls Tryz.prog 14 #[.agg #[w1, .int .i64 semi, .int .i64 toh, .int .i64 top, .bool cyc, .int .i64 scan, .int .i64 old, .int .i64 copied, .int .i64 serial, r1], .agg #[w2, .int .i64 semi, .int .i64 toh, .int .i64 top, .bool cyc, .int .i64 scan, .int .i64 old, .int .i64 copied, .int .i64 serial, r2]] w
      fun e w' => e = .returned (.bool true) ∧ Below w.heap.size w w' := by
  have k1 := h1.here
  have k2 := h2.here
  have k3 := g1.here
  have k4 := g2.here
  clear h1 h2 g1 g2
  have hA : ∀ A B t, Below w.heap.size w ((w.alloc (.cells A t)).alloc (.cells B t)) := fun A B t => ((Below.refl _ _).alloc (Nat.le_refl _) _).alloc (by simp) _
  obtain ⟨a1, c1, rfl⟩ := k1.head
  obtain ⟨a2, c2, rfl⟩ := k2.head
  obtain ⟨a3, c3, rfl⟩ := k3.head
  obtain ⟨a4, c4, rfl⟩ := k4.head
  go_enter Tryz.func14, Tryz.ntmps14
  go_wp2_with fail
  refine (eqU64S_same _ _ _ _ n z _ (k1.below (hA _ _ _) (Nat.le_refl _)) (k2.below (hA _ _ _) (Nat.le_refl _)) hn).mono ?_
  rintro e w5 ⟨rfl, b5⟩
  obtain ⟨q1, q2⟩ := two_cells b5
  have B5 := (hA _ _ _).trans (b5.mono (by simp; omega))
  have k5 := k3.below B5 (Nat.le_refl _)
  have k6 := k4.below B5 (Nat.le_refl _)
  clear k1 k2 k3 k4 hA b5
  go_wp2_with fail
  refine (eqValS_same _ _ _ _ m y _ k5 k6 hm).mono ?_
  rintro e w6 ⟨rfl, b6⟩
  have B6 := below_next B5 b6
  go_wp2
  go_ret
  exact ⟨rfl, B6⟩

theorem one_cells {w w' : World} {A : Array Value} {t : TypeId} {C : Nat} (hB : Below C (w.alloc (.cells A t)) w') (hC : w.heap.size < C) : ∀ i, w'.cell? ⟨w.heap.size, i, none⟩ = A[i]? := by
  intro i
  rw [hB.cell (p := ⟨w.heap.size, i, none⟩) hC]; simp [go_sem]
theorem one_apart {w w' : World} {A : Array Value} {t : TypeId} {B T : Nat} (hB : Apart B T (w.alloc (.cells A t)) w') (hT : T ≤ w.heap.size) : ∀ i, w'.cell? ⟨w.heap.size, i, none⟩ = A[i]? := by
  intro i
  rw [World.cell?_of_block (w := w.alloc (.cells A t)) (hB.block w.heap.size (by simp) (.inr hT))]; simp [go_sem]

theorem markArena_any (B1 T1 B2 T2 B T : Nat) (vw vr : Value) (n m : Nat) (z y : Nat → Int) (semi toh top : Int) (cyc : Bool) (scan old copied serial : Int) (w : World)
    (h : OwnF B1 T1 100 w vw n n (fun i => .int .u64 (z i))) (hn : n ≤ 1048576) (g : OwnF B2 T2 48 w vr m (2 * m) (fun i => .int .i64 (y i))) (hm : m ≤ 1048576) (hT : T1 ≤ B2 ∨ T2 ≤ B1) (hB1 : B ≤ B1) (hT1 : T1 ≤ T) (hB2 : B ≤ B2) (hT2 : T2 ≤ T) (hw : T ≤ w.heap.size) :
    Calls Tryz.prog 23 #[.agg #[vw, .int .i64 semi, .int .i64 toh, .int .i64 top, .bool cyc, .int .i64 scan, .int .i64 old, .int .i64 copied, .int .i64 serial, vr], .int .i64 1] w
      fun e w' => e = .returned (.int .i64 (1 + n + 2 * m)) ∧ OwnF B1 T1 100 w' vw n n (fun i => .int .u64 (1 + i)) ∧ OwnF B2 T2 48 w' vr m (2 * m) (fun i => .int .i64 (1 + n + i)) ∧ Apart B T w w' := by
  have hA : ∀ A t, Below w.heap.size w (w.alloc (.cells A t)) := fun A t => (Below.refl _ _).alloc (Nat.le_refl _) _
  obtain ⟨a1, c1, rfl⟩ := h.sl.head
  obtain ⟨a2, c2, rfl⟩ := g.sl.head
  go_enter Tryz.func23, Tryz.ntmps23
  go_wp2_with fail
  refine (markU64S_any _ _ _ n z 1 _ (h.below (hA _ _) (by omega)) hn (by omega) (by omega)).mono ?_
  rintro e w1 ⟨rfl, h1, U1⟩
  have g1 := (g.below (hA _ _) (by omega)).outside U1 (by omega)
  have A1 := U1.apart hB1 hT1
  have q1 := one_apart A1 hw
  have AA := (below_apart (hA #[.slice a1 n c1, .int .i64 semi, .int .i64 toh, .int .i64 top, .bool cyc, .int .i64 scan, .int .i64 old, .int .i64 copied, .int .i64 serial, .slice a2 m c2] 30) (Nat.le_refl _) B T).trans A1
  clear hA h g U1
  go_wp2_with fail
  refine (markValS_any _ _ _ m y _ _ g1 hm (by omega) (by omega)).mono ?_
  rintro e w2 ⟨rfl, g2, U2⟩
  have h2 := h1.outside U2 (by omega)
  have A2 := AA.trans (U2.apart hB2 hT2)
  go_wp2
  go_ret
  exact ⟨rfl, h2, g2, A2⟩

theorem heldArena_any (T1 T2 : Nat) (vw vr : Value) (n m : Nat) (semi toh top : Int) (cyc : Bool) (scan old copied serial : Int) (w : World)
    (h : SlF T1 w vw n n (fun i => .int .u64 (1 + i))) (hn : n ≤ 1048576) (g : SlF T2 w vr m (2 * m) (fun i => .int .i64 (1 + n + i))) (hm : m ≤ 1048576) :
    Calls Tryz.prog 29 #[.agg #[vw, .int .i64 semi, .int .i64 toh, .int .i64 top, .bool cyc, .int .i64 scan, .int .i64 old, .int .i64 copied, .int .i64 serial, vr], .int .i64 1] w
      fun e w' => e = .returned (.int .i64 (1 + n + 2 * m)) ∧ Below w.heap.size w w' := by
  have hA : ∀ A t, Below w.heap.size w (w.alloc (.cells A t)) := fun A t => (Below.refl _ _).alloc (Nat.le_refl _) _
  have k1 := h.here
  have k2 := g.here
  clear h g
  obtain ⟨a1, c1, rfl⟩ := k1.head
  obtain ⟨a2, c2, rfl⟩ := k2.head
  go_enter Tryz.func29, Tryz.ntmps29
  go_wp2_with fail
  refine (heldU64S_any _ _ n 1 _ (k1.below (hA _ _) (Nat.le_refl _)) hn (by omega) (by omega)).mono ?_
  rintro e w1 ⟨rfl, b1⟩
  have q1 := one_cells b1 (by simp)
  have B1 := below_first b1
  have k3 := k2.below B1 (Nat.le_refl _)
  have n0 : ¬ (1 + (n : Int)) < 0 := by omega
  clear hA k1 k2 b1
  go_wp2_with fail
  refine (heldValS_any _ _ m _ _ k3 hm (by omega) (by omega)).mono ?_
  rintro e w2 ⟨rfl, b2⟩
  have B2 := below_next B1 b2
  have n1 : ¬ (1 + (n : Int) + 2 * m) < 0 := by omega
  go_wp2
  go_ret
  exact ⟨rfl, B2⟩
theorem has_below {w w' : World} {C b : Nat} {A : Array Value} (h : ∀ i, w.cell? ⟨b, i, none⟩ = A[i]?) (hb : Below C w w') (hC : b < C) : ∀ i, w'.cell? ⟨b, i, none⟩ = A[i]? := fun i => by
  rw [hb.cell (p := ⟨b, i, none⟩) hC]; exact h i
theorem has_apart {w w' : World} {B T b : Nat} {A : Array Value} (h : ∀ i, w.cell? ⟨b, i, none⟩ = A[i]?) (hb : Apart B T w w') (h1 : b < w.heap.size) (h2 : b < B ∨ T ≤ b) : ∀ i, w'.cell? ⟨b, i, none⟩ = A[i]? := fun i => by
  rw [World.cell?_of_block (w := w) (hb.block b h1 h2)]; exact h i

end Go.Proofs.YtmckcnmlhgpnhaaGreat
