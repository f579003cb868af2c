/- ShapeSame of the model. -/
import Derived.Test.YtbllmchbcbjfiaaProg
import Derived.Test.YtbllmchbcbjfiaaShC
import Derived.Deep.RegionWith
namespace Go.Proofs.Ytbllmchbcbjfiaa
set_option maxRecDepth 20000
open Go.RowKit
set_option linter.unusedSimpArgs false
set_option linter.unusedVariables false

set_option maxHeartbeats 2000000 in
theorem specShapeSame_any (a1 a2 a1' a2' : Option Addr) (c1 c2 c1' c2' n1 n2 L1 L2 : Nat) (y1 y2 : Nat → Int) (X Y : Nat → NodeD) (T : Nat) (w : World) (h1 : ShF T w (.slice a1 n1 c1) (.slice a2 L1 c2) n1 y1 L1 X) (h2 : ShF T w (.slice a1' n2 c1') (.slice a2' L2 c2') n2 y2 L2 Y) (hT : T ≤ w.heap.size) (l1 : n1 ≤ 1048576) (l2 : n2 ≤ 1048576) (hL1 : L1 ≤ 1048576) (hL2 : L2 ≤ 1048576) (hX : ∀ j, j < L1 → (X j).len ≤ 1048576) (hY : ∀ j, j < L2 → (Y j).len ≤ 1048576) :
    Calls Try.prog 5 #[.agg #[.slice a1 n1 c1, .slice a2 L1 c2], .agg #[.slice a1' n2 c1', .slice a2' L2 c2']] w fun e w' => ∃ q, e = .returned (.bool q) ∧ (q = true ↔ SEq n1 n2 y1 y2 L1 L2 X Y) ∧ Below w.heap.size w w' := by
  have H1 : Hid (ShF T w (.slice a1 n1 c1) (.slice a2 L1 c2) n1 y1 L1 X) := h1
  have H2 : Hid (ShF T w (.slice a1' n2 c1') (.slice a2' L2 c2') n2 y2 L2 Y) := h2
  have HX : Hid (∀ j, j < L1 → (X j).len ≤ 1048576) := hX
  have HY : Hid (∀ j, j < L2 → (Y j).len ≤ 1048576) := hY
  have l1' : (L1 : Int) ≤ 1048576 := by omega
  have l2' : (L2 : Int) ≤ 1048576 := by omega
  clear h1 h2 hX hY
  have B2 : Below w.heap.size w ((w.alloc (.cells #[.slice a1 n1 c1, .slice a2 L1 c2] 31)).alloc (.cells #[.slice a1' n2 c1', .slice a2' L2 c2'] 31)) := ((Below.refl _ _).alloc (Nat.le_refl _) _).alloc (by simp) _
  by_cases hV : VEq n1 n2 y1 y2
  · by_cases hn : L1 = L2
    · subst hn
      go_enter Try.func5, Try.ntmps5
      go_wp2_with (go_at_call 11; refine (l7Vals_any_yes _ _ _ _ _ _ y1 y2 _ _ _ (H1.out.1.below B2 hT) (H2.out.1.below B2 hT) l1 l2 hV).mono ?_; rintro e w1 ⟨rfl, b1⟩; have k1 := fun i => (bcell b1).1 (w.heap.size + 1) i (by simp); have k0 := fun i => (bcell b1).1 w.heap.size i (by simp; omega); have z1 : w.heap.size + 1 + 1 ≤ w1.heap.size := (by have := b1.size; simp at this; omega); have BB : Hid (Below w.heap.size w w1) := B2.trans (b1.mono (by simp; omega)); clear b1)
      have K1 : w1.cell? ⟨w.heap.size, 1, none⟩ = some (.slice a2 L1 c2) := by rw [k0]; simp [go_sem]
      have K2 : w1.cell? ⟨w.heap.size + 1, 1, none⟩ = some (.slice a2' L1 c2') := by rw [k1]; simp [go_sem]
      clear k0 k1
      go_loopw [5] (fun i wr => ∃ k : Nat, k ≤ L1 ∧ i = .int .i64 k ∧ (∀ p, p < k → NEq (X p) (Y p)) ∧ Below w.heap.size w wr ∧ wr.cell? ⟨w.heap.size, 1, none⟩ = some (.slice a2 L1 c2) ∧ wr.cell? ⟨w.heap.size + 1, 1, none⟩ = some (.slice a2' L1 c2') ∧ w.heap.size + 1 + 1 ≤ wr.heap.size) (fun i _ => L1 - (intOf i).toNat)
      case atStart => exact ⟨0, Nat.zero_le _, rfl, fun p hp => by omega, BB.out, K1, K2, z1⟩
      case round =>
        clear K1 K2 z1 BB
        obtain ⟨j, hk, rfl, hp, hF, K1, K2, z1⟩ := hrel
        have HP : Hid (∀ p, p < j → NEq (X p) (Y p)) := hp
        clear hp
        by_cases hlt : j < L1
        · have hlt' : (j : Int) < (L1 : Int) := by omega
          obtain ⟨b, off, rfl, lb, lz, hc⟩ := H1.out.2.at_ hlt
          obtain ⟨b', off', rfl, lb', lz', hc'⟩ := H2.out.2.at_ hlt
          obtain ⟨ax, cx, c0, c1, c2, c3, c4, c5, sx⟩ := (hc j hlt).below hF hT lb
          obtain ⟨ay, cy, d0, d1, d2, d3, d4, d5, sy⟩ := (hc' j hlt).below hF hT lb'
          have x1 := HX.out j hlt
          have x2 := HY.out j hlt
          obtain ⟨x, hx⟩ : ∃ x, X j = x := ⟨_, rfl⟩
          obtain ⟨u, hu⟩ : ∃ x, Y j = x := ⟨_, rfl⟩
          rw [hx] at c0 c1 c2 c3 c4 c5 sx x1
          rw [hu] at d0 d1 d2 d3 d4 d5 sy x2
          have EX : Hid (X j = x) := hx
          have EY : Hid (Y j = u) := hu
          obtain ⟨k, s, n, m, t, l, y⟩ := x
          obtain ⟨k', s', n', m', t', l', y'⟩ := u
          simp only at c0 c1 c2 c3 c4 c5 sx x1 d0 d1 d2 d3 d4 d5 sy x2
          have SX : Hid (SlF T wr (.slice ax l cx) l (2 * l) (fun i => .int .i64 (y i))) := sx
          have SY : Hid (SlF T wr (.slice ay l' cy) l' (2 * l') (fun i => .int .i64 (y' i))) := sy
          have HF : Hid (Below w.heap.size w wr) := hF
          have hT2 : T ≤ wr.heap.size := Nat.le_trans hT hF.size
          have lb1 : b < wr.heap.size := by omega
          have lb2 : b' < wr.heap.size := by omega
          have NQ : Hid (NEq (X j) (Y j) ↔ (k = k' ∧ s = s' ∧ n = n' ∧ m = m' ∧ (t.toList == t'.toList) = true ∧ VEq l l' y y')) := by show _ ↔ _; rw [hx, hu]; exact Iff.rfl
          clear hc hc' H1 H2 HX HY hx hu sx sy hF
          have lw : w.heap.size < wr.heap.size := by omega
          have lw1 : w.heap.size + 1 < wr.heap.size := by omega
          go_wp2
          go_region
          all_goals
            by_cases g1 : k = k'
            rotate_left
            · go_wp2
              go_ret
              exact ⟨false, rfl, ⟨fun h => (by cases h), fun h => absurd (NQ.out.1 (h.2.2 j hlt)).1 g1⟩, below_next HF.out ((((Below.refl _ _).alloc (Nat.le_refl _) _).alloc (by simp) _).drew)⟩
            by_cases g2 : s = s'
            rotate_left
            · go_wp2
              go_ret
              exact ⟨false, rfl, ⟨fun h => (by cases h), fun h => absurd (NQ.out.1 (h.2.2 j hlt)).2.1 g2⟩, below_next HF.out ((((Below.refl _ _).alloc (Nat.le_refl _) _).alloc (by simp) _).drew)⟩
            by_cases g3 : n = n'
            rotate_left
            · go_wp2
              go_ret
              exact ⟨false, rfl, ⟨fun h => (by cases h), fun h => absurd (NQ.out.1 (h.2.2 j hlt)).2.2.1 g3⟩, below_next HF.out ((((Below.refl _ _).alloc (Nat.le_refl _) _).alloc (by simp) _).drew)⟩
            by_cases g4 : m = m'
            rotate_left
            · go_wp2
              go_ret
              exact ⟨false, rfl, ⟨fun h => (by cases h), fun h => absurd (NQ.out.1 (h.2.2 j hlt)).2.2.2.1 g4⟩, below_next HF.out ((((Below.refl _ _).alloc (Nat.le_refl _) _).alloc (by simp) _).drew)⟩
            cases ht : t.toList == t'.toList with
            | false =>
              go_wp2
              go_ret
              exact ⟨false, rfl, ⟨fun h => (by cases h), fun h => absurd ((NQ.out.1 (h.2.2 j hlt)).2.2.2.2.1) (by simp [ht])⟩, below_next HF.out ((((Below.refl _ _).alloc (Nat.le_refl _) _).alloc (by simp) _).drew)⟩
            | true =>
              by_cases hVn : VEq l l' y y'
              · have HV : Hid (VEq l l' y y') := hVn
                clear hVn
                go_wp2_with (go_at_call 11; refine (l7Vals_any_yes _ _ _ _ _ _ y y' _ _ _ (SX.out.below ((((Below.refl _ _).alloc (Nat.le_refl _) _).alloc (by simp) _).drew) hT2) (SY.out.below ((((Below.refl _ _).alloc (Nat.le_refl _) _).alloc (by simp) _).drew) hT2) x1 x2 HV.out).mono ?_; rintro e w1 ⟨rfl, b1⟩; have BB : Hid (Below wr.heap.size wr w1) := ((((Below.refl _ _).alloc (Nat.le_refl _) _).alloc (by simp) _).drew).trans (b1.mono (by simp; omega)); clear b1)
                go_roundw
                case rel => exact ⟨j + 1, by omega, by go_num, nodes_on HP.out (NQ.out.2 ⟨g1, g2, g3, g4, ht, HV.out⟩), below_next HF.out BB.out, ((bcell BB.out).1 _ _ (by omega)).trans K1, ((bcell BB.out).1 _ _ (by omega)).trans K2, Nat.le_trans z1 BB.out.size⟩
                case measure => simp [intOf]; omega
              · have HV : Hid (¬ VEq l l' y y') := hVn
                clear hVn
                go_wp2_with (go_at_call 11; refine (l7Vals_any_no _ _ _ _ _ _ y y' _ _ _ (SX.out.below ((((Below.refl _ _).alloc (Nat.le_refl _) _).alloc (by simp) _).drew) hT2) (SY.out.below ((((Below.refl _ _).alloc (Nat.le_refl _) _).alloc (by simp) _).drew) hT2) x1 x2 HV.out).mono ?_; rintro e w1 ⟨rfl, b1⟩; have BB : Hid (Below wr.heap.size wr w1) := ((((Below.refl _ _).alloc (Nat.le_refl _) _).alloc (by simp) _).drew).trans (b1.mono (by simp; omega)); clear b1)
                go_ret
                exact ⟨false, rfl, ⟨fun h => (by cases h), fun h => absurd ((NQ.out.1 (h.2.2 j hlt)).2.2.2.2.2) HV.out⟩, below_next HF.out BB.out⟩
        · have hge : (L1 : Int) ≤ (j : Int) := by omega
          go_wp2
          go_ret
          exact ⟨true, rfl, ⟨fun _ => ⟨hV, by trivial, fun i hi => HP.out i (by omega)⟩, fun _ => rfl⟩, hF⟩
    · have hn' : ¬ ((L1 : Int) = L2) := by omega
      go_enter Try.func5, Try.ntmps5
      go_wp2_with (go_at_call 11; refine (l7Vals_any_yes _ _ _ _ _ _ y1 y2 _ _ _ (H1.out.1.below B2 hT) (H2.out.1.below B2 hT) l1 l2 hV).mono ?_; rintro e w1 ⟨rfl, b1⟩; have k1 := fun i => (bcell b1).1 (w.heap.size + 1) i (by simp); have k0 := fun i => (bcell b1).1 w.heap.size i (by simp; omega); have z1 : w.heap.size + 1 + 1 ≤ w1.heap.size := (by have := b1.size; simp at this; omega); have BB : Hid (Below w.heap.size w w1) := B2.trans (b1.mono (by simp; omega)); clear b1)
      go_ret
      exact ⟨false, rfl, ⟨fun h => (by cases h), fun h => absurd h.2.1 hn⟩, BB.out⟩
  · go_enter Try.func5, Try.ntmps5
    go_wp2_with (go_at_call 11; refine (l7Vals_any_no _ _ _ _ _ _ y1 y2 _ _ _ (H1.out.1.below B2 hT) (H2.out.1.below B2 hT) l1 l2 hV).mono ?_; rintro e w1 ⟨rfl, b1⟩; have k1 := fun i => (bcell b1).1 (w.heap.size + 1) i (by simp); have k0 := fun i => (bcell b1).1 w.heap.size i (by simp; omega); have z1 : w.heap.size + 1 + 1 ≤ w1.heap.size := (by have := b1.size; simp at this; omega); have BB : Hid (Below w.heap.size w w1) := B2.trans (b1.mono (by simp; omega)); clear b1)
    go_ret
    exact ⟨false, rfl, ⟨fun h => (by cases h), fun h => absurd h.1 hV⟩, BB.out⟩
end Go.Proofs.Ytbllmchbcbjfiaa
