/- - -/
import Derived.Test.YtmckcnmlhgpnhaaGreatWRowF
import Derived.Deep.RegionWith
namespace Go.Proofs.YtmckcnmlhgpnhaaGreat
set_option maxRecDepth 20000
open Go.RowKit
set_option linter.unusedSimpArgs false
set_option linter.unusedVariables false
theorem zoo (T1 T2 : Nat) (v1 v2 : Value) (n : Nat) (z : Nat -> Int) (w : World) (h1 : SlF T1 w v1 n n (fun i => .int .u64 (z i))) (h2 : SlF T2 w v2 n n (fun i => .int .u64 (z i))) (hn : n <= 1048576) :
 Calls Tryz.prog 52 #[v1, v2] w fun e w' => e = .returned (.bool true) /\ Below w.heap.size w w' := by
 obtain ⟨a1, c1, rfl, h1⟩ := h1
 obtain ⟨a2, c2, rfl, h2⟩ := h2
 have hn' : (n : Int) <= 1048576 := by omega
 go_enter Tryz.func52, Tryz.ntmps52
 go_wp2
 go_loopw [5] (fun i wr => ∃ k : Nat, k <= n /\ i = .int .i64 k /\ Below w.heap.size w wr) (fun i _ => n - (intOf i).toNat)
 case atStart => exact ⟨0, Nat.zero_le _, rfl, Below.refl _ _⟩
 case round =>
  obtain ⟨k, hk, rfl, hF⟩ := hrel
  by_cases hlt : k < n
  · rcases h1 with rfl | ⟨b1, o1, rfl, _, l1, g1⟩
    · simp at hlt
    rcases h2 with rfl | ⟨b2, o2, rfl, _, l2, g2⟩
    · simp at hlt
    have hc1 : wr.cell? ⟨b1, o1 + k, none⟩ = some (.int .u64 (z k)) := by rw [hF.cell (p := ⟨b1, o1 + k, none⟩) l1]; exact g1 k hlt
    have hc2 : wr.cell? ⟨b2, o2 + k, none⟩ = some (.int .u64 (z k)) := by rw [hF.cell (p := ⟨b2, o2 + k, none⟩) l2]; exact g2 k hlt
    have hlt' : (k : Int) < (n : Int) := by omega
    clear g1 g2
    go_wp2
    go_quiet (fail)
    go_wp2
    go_roundw
    case rel => exact ⟨k + 1, by omega, by go_num, below_drewN hF _⟩
    case measure => simp [intOf]; omega
  · go_wp2
    go_ret
    exact ⟨rfl, hF⟩
theorem zjx (t n : Int) (w : World) :
 Calls Tryz.prog 64 #[.agg #[.int .i64 t, .int .i64 n], .agg #[.int .i64 t, .int .i64 n]] w fun e w' => e = .returned (.bool true) /\ Below w.heap.size w w' := by
 go_enter Tryz.func64, Tryz.ntmps64
 go_wp2
 go_ret
 exact ⟨rfl, ((Below.refl _ _).alloc (Nat.le_refl _) _).alloc (by simp) _⟩
theorem zop (T1 T2 : Nat) (v1 v2 : Value) (n : Nat) (z : Nat -> Int) (w : World) (h1 : SlF T1 w v1 n (2 * n) (fun i => .int .i64 (z i))) (h2 : SlF T2 w v2 n (2 * n) (fun i => .int .i64 (z i))) (hn : n <= 1048576) :
 Calls Tryz.prog 53 #[v1, v2] w fun e w' => e = .returned (.bool true) /\ Below w.heap.size w w' := by
 obtain ⟨a1, c1, rfl, h1⟩ := h1
 obtain ⟨a2, c2, rfl, h2⟩ := h2
 have hn' : (n : Int) <= 1048576 := by omega
 go_enter Tryz.func53, Tryz.ntmps53
 go_wp2
 go_loopw [5] (fun i wr => ∃ k : Nat, k <= n /\ i = .int .i64 k /\ Below w.heap.size w wr) (fun i _ => n - (intOf i).toNat)
 case atStart => exact ⟨0, Nat.zero_le _, rfl, Below.refl _ _⟩
 case round =>
  obtain ⟨k, hk, rfl, hF⟩ := hrel
  by_cases hlt : k < n
  · rcases h1 with h | ⟨b1, o1, rfl, _, l1, g1⟩
    · omega
    rcases h2 with h | ⟨b2, o2, rfl, _, l2, g2⟩
    · omega
    have hc1 : wr.cell? ⟨b1, o1 + k * 2, none⟩ = some (.int .i64 (z (2 * k))) := by rw [hF.cell (p := ⟨b1, o1 + k * 2, none⟩) l1, Nat.mul_comm]; exact g1 (2 * k) (by omega)
    have hc2 : wr.cell? ⟨b2, o2 + k * 2, none⟩ = some (.int .i64 (z (2 * k))) := by rw [hF.cell (p := ⟨b2, o2 + k * 2, none⟩) l2, Nat.mul_comm]; exact g2 (2 * k) (by omega)
    have hd1 : wr.cell? ⟨b1, o1 + k * 2 + 1, none⟩ = some (.int .i64 (z (2 * k + 1))) := by rw [hF.cell (p := ⟨b1, o1 + k * 2 + 1, none⟩) l1, Nat.mul_comm]; exact g1 (2 * k + 1) (by omega)
    have hd2 : wr.cell? ⟨b2, o2 + k * 2 + 1, none⟩ = some (.int .i64 (z (2 * k + 1))) := by rw [hF.cell (p := ⟨b2, o2 + k * 2 + 1, none⟩) l2, Nat.mul_comm]; exact g2 (2 * k + 1) (by omega)
    have hlt' : (k : Int) < (n : Int) := by omega
    clear g1 g2
    go_wp2
    go_region_with (go_at_call 64; refine (zjx _ _ _).mono ?_; rintro e w' ⟨rfl, hb⟩)
    all_goals
     have hB := zc hF.drew hb
     go_wp2
     go_roundw
     case rel => exact ⟨k + 1, by omega, by go_num, hB⟩
     case measure => simp [intOf]; omega
  · go_wp2
    go_ret
    exact ⟨rfl, hF⟩
theorem zs8 {w w' : World} {A B : Array Value} {t : TypeId} (hB : Below ((w.alloc (.cells A t)).alloc (.cells B t)).heap.size ((w.alloc (.cells A t)).alloc (.cells B t)) w') :
 (∀ i, w'.cell? ⟨w.heap.size, i, none⟩ = A[i]?) /\ (∀ i, w'.cell? ⟨w.heap.size + 1, i, none⟩ = B[i]?) := by
 refine ⟨fun i => ?_, fun i => ?_⟩
 · rw [hB.cell (p := ⟨w.heap.size, i, none⟩) (by simp; omega)]; simp [go_sem]
 · rw [hB.cell (p := ⟨w.heap.size + 1, i, none⟩) (by simp)]; simp [go_sem]
theorem zmq (T1 T2 T3 T4 : Nat) (w1 r1 w2 r2 : Value) (n m : Nat) (z y : Nat -> Int) (smz toh top : Int) (cyc : Bool) (sn old cpz sr : Int) (w : World)
 (h1 : SlF T1 w w1 n n (fun i => .int .u64 (z i))) (h2 : SlF T2 w w2 n n (fun i => .int .u64 (z i))) (hn : n <= 1048576)
 (g1 : SlF T3 w r1 m (2 * m) (fun i => .int .i64 (y i))) (g2 : SlF T4 w r2 m (2 * m) (fun i => .int .i64 (y i))) (hm : m <= 1048576) :
 Calls Tryz.prog 14 #[.agg #[w1, .int .i64 smz, .int .i64 toh, .int .i64 top, .bool cyc, .int .i64 sn, .int .i64 old, .int .i64 cpz, .int .i64 sr, r1], .agg #[w2, .int .i64 smz, .int .i64 toh, .int .i64 top, .bool cyc, .int .i64 sn, .int .i64 old, .int .i64 cpz, .int .i64 sr, r2]] w
  fun e w' => e = .returned (.bool true) /\ Below w.heap.size w w' := by
 have k1 := h1.here
 have k2 := h2.here
 have k3 := g1.here
 have k4 := g2.here
 clear h1 h2 g1 g2
 have hA : ∀ A B t, Below w.heap.size w ((w.alloc (.cells A t)).alloc (.cells B t)) := fun A B t => ((Below.refl _ _).alloc (Nat.le_refl _) _).alloc (by simp) _
 obtain ⟨a1, c1, rfl⟩ := k1.head
 obtain ⟨a2, c2, rfl⟩ := k2.head
 obtain ⟨a3, c3, rfl⟩ := k3.head
 obtain ⟨a4, c4, rfl⟩ := k4.head
 go_enter Tryz.func14, Tryz.ntmps14
 go_wp2_with fail
 refine (zoo _ _ _ _ n z _ (k1.below (hA _ _ _) (Nat.le_refl _)) (k2.below (hA _ _ _) (Nat.le_refl _)) hn).mono ?_
 rintro e w5 ⟨rfl, b5⟩
 obtain ⟨q1, q2⟩ := zs8 b5
 have B5 := (hA _ _ _).trans (b5.mono (by simp; omega))
 have k5 := k3.below B5 (Nat.le_refl _)
 have k6 := k4.below B5 (Nat.le_refl _)
 clear k1 k2 k3 k4 hA b5
 go_wp2_with fail
 refine (zop _ _ _ _ m y _ k5 k6 hm).mono ?_
 rintro e w6 ⟨rfl, b6⟩
 have B6 := zc B5 b6
 go_wp2
 go_ret
 exact ⟨rfl, B6⟩
theorem zp {w w' : World} {A : Array Value} {t : TypeId} {C : Nat} (hB : Below C (w.alloc (.cells A t)) w') (hC : w.heap.size < C) : ∀ i, w'.cell? ⟨w.heap.size, i, none⟩ = A[i]? := by
 intro i
 rw [hB.cell (p := ⟨w.heap.size, i, none⟩) hC]; simp [go_sem]
theorem zcu {w w' : World} {A : Array Value} {t : TypeId} {B T : Nat} (hB : zz B T (w.alloc (.cells A t)) w') (hT : T <= w.heap.size) : ∀ i, w'.cell? ⟨w.heap.size, i, none⟩ = A[i]? := by
 intro i
 rw [World.cell?_of_block (w := w.alloc (.cells A t)) (hB.block w.heap.size (by simp) (.inr hT))]; simp [go_sem]
theorem ze {w w' : World} {C b : Nat} {A : Array Value} (h : ∀ i, w.cell? ⟨b, i, none⟩ = A[i]?) (hb : Below C w w') (hC : b < C) : ∀ i, w'.cell? ⟨b, i, none⟩ = A[i]? := fun i => by
 rw [hb.cell (p := ⟨b, i, none⟩) hC]; exact h i
theorem zla {w w' : World} {B T b : Nat} {A : Array Value} (h : ∀ i, w.cell? ⟨b, i, none⟩ = A[i]?) (hb : zz B T w w') (h1 : b < w.heap.size) (h2 : b < B \/ T <= b) : ∀ i, w'.cell? ⟨b, i, none⟩ = A[i]? := fun i => by
 rw [World.cell?_of_block (w := w) (hb.block b h1 h2)]; exact h i
end Go.Proofs.YtmckcnmlhgpnhaaGreat
