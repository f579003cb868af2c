/- - -/
import Derived.Test.YtiglkhkfbgjjoaaDoorQTrB
namespace Go.Proofs.YtiglkhkfbgjjoaaDoor
set_option maxRecDepth 20000
open Go.RowKit
set_option linter.unusedSimpArgs false
set_option linter.unusedVariables false
theorem zjl {n1 n2 j : Nat} {y1 y2 : Nat -> Int} (hj : j < n1) (h : y1 j ≠ y2 j) : ¬ IEq n1 n2 y1 y2 := fun h2 => h (h2.2 j hj)
theorem zjm {j : Nat} {y1 y2 : Nat -> Int} (hp : ∀ i, i < j -> y1 i = y2 i) (h : y1 j = y2 j) : ∀ i, i < j + 1 -> y1 i = y2 i := fun i hi => if e : i = j then e ▸ h else hp i (by omega)
set_option maxHeartbeats 1000000 in
theorem za9 (a1 a2 : Option Addr) (n1 c1 n2 c2 : Nat) (y1 y2 : Nat -> Int) (T1 T2 : Nat) (w : World) (h1 : SlF T1 w (.slice a1 n1 c1) n1 n1 (fun i => .int .i64 (y1 i))) (h2 : SlF T2 w (.slice a2 n2 c2) n2 n2 (fun i => .int .i64 (y2 i))) (l1 : n1 <= 1048576) (l2 : n2 <= 1048576) :
 Calls Tryd.prog 95 #[.slice a1 n1 c1, .slice a2 n2 c2] w fun e w' => ∃ q, e = .returned (.bool q) /\ (q = true ↔ IEq n1 n2 y1 y2) /\ Below w.heap.size w w' := by
 have H1 : Hid (SlF w.heap.size w (.slice a1 n1 c1) n1 n1 (fun i => .int .i64 (y1 i))) := h1.here
 have H2 : Hid (SlF w.heap.size w (.slice a2 n2 c2) n2 n2 (fun i => .int .i64 (y2 i))) := h2.here
 have l1' : (n1 : Int) <= 1048576 := by omega
 have l2' : (n2 : Int) <= 1048576 := by omega
 clear h1 h2
 by_cases hn : n1 = n2
 · subst hn
   go_enter Tryd.func95, Tryd.ntmps95
   go_wp2
   go_loopw [13] (fun i wr => ∃ k : Nat, k <= n1 /\ i = .int .i64 k /\ (∀ p, p < k -> y1 p = y2 p) /\ Below w.heap.size w wr) (fun i _ => n1 - (intOf i).toNat)
   case atStart => exact ⟨0, Nat.zero_le _, rfl, fun p hp => by omega, Below.refl _ _⟩
   case round =>
    obtain ⟨j, hk, rfl, hp, hF⟩ := hrel
    have HP : Hid (∀ p, p < j -> y1 p = y2 p) := hp
    clear hp
    by_cases hlt : j < n1
    · have hlt' : (j : Int) < (n1 : Int) := by omega
      obtain ⟨br, offr, cap', hv, _, lbr, hcr⟩ := H1.out.parts (k := 0) (by omega)
      simp only [Value.slice.injEq] at hv
      obtain ⟨rfl, _, rfl⟩ := hv
      obtain ⟨bs, offs, cap', hv, _, lbs, hcs⟩ := H2.out.parts (k := 0) (by omega)
      simp only [Value.slice.injEq] at hv
      obtain ⟨rfl, _, rfl⟩ := hv
      have hc1 : wr.cell? ⟨br, offr + j, none⟩ = some (.int .i64 (y1 j)) := by rw [hF.cell (p := ⟨br, offr + j, none⟩) lbr]; exact hcr j hlt
      have hc2 : wr.cell? ⟨bs, offs + j, none⟩ = some (.int .i64 (y2 j)) := by rw [hF.cell (p := ⟨bs, offs + j, none⟩) lbs]; exact hcs j hlt
      clear hcr hcs H1 H2
      by_cases hq : y1 j = y2 j
      · have HV : Hid (∀ i, i < j + 1 -> y1 i = y2 i) := zjm HP.out hq
        rw [hq] at hc1
        generalize y2 j = yy at hc1 hc2
        clear hq
        go_wp2
        go_quiet (fail)
        go_wp2
        go_roundw
        case rel => exact ⟨j + 1, by omega, by go_num, HV.out, below_drewN hF _⟩
        case measure => simp [intOf]; omega
      · have HN : Hid (¬ IEq n1 n1 y1 y2) := zjl hlt hq
        generalize y1 j = yx at hc1 hq
        generalize y2 j = yy at hc2 hq
        go_wp2
        go_quiet (fail)
        go_wp2
        go_ret
        exact ⟨false, rfl, ⟨fun h => (by cases h), fun h => absurd h HN.out⟩, below_drewN hF _⟩
    · have hge : (n1 : Int) <= (j : Int) := by omega
      go_wp2
      go_ret
      exact ⟨true, rfl, ⟨fun _ => ⟨rfl, fun i hi => HP.out i (by omega)⟩, fun _ => rfl⟩, hF⟩
 · have hn' : ¬ ((n1 : Int) = n2) := by omega
   go_enter Tryd.func95, Tryd.ntmps95
   go_wp2
   go_ret
   exact ⟨false, rfl, ⟨fun h => (by cases h), fun h => absurd h.1 hn⟩, Below.refl _ _⟩
end Go.Proofs.YtiglkhkfbgjjoaaDoor
