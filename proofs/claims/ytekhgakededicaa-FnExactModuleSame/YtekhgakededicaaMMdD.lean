/- ModuleSame of the model. -/
import Derived.Test.YtekhgakededicaaProg
import Derived.Test.YtekhgakededicaaMMdC
namespace Go.Proofs.Ytekhgakededicaa
set_option maxRecDepth 20000
open Go.RowKit
set_option linter.unusedSimpArgs false
set_option linter.unusedVariables false

set_option maxHeartbeats 2000000 in
theorem sameProto_any (pa sl : Int) (au : Option Addr) (un cu : Nat) (ac : Option Addr) (cn cc : Nat) (pa' sl' : Int) (au' : Option Addr) (un' cu' : Nat) (ac' : Option Addr) (cn' cc' : Nat) (ub ub' : Nat → Bool) (ui ui' co co' ca ca' : Nat → Int) (T : Nat) (w : World) (h1 : SlF T w (.slice au un cu) un (2 * un) (upF ub ui)) (h2 : SlF T w (.slice ac cn cc) cn (2 * cn) (inF co ca)) (h3 : SlF T w (.slice au' un' cu') un' (2 * un') (upF ub' ui')) (h4 : SlF T w (.slice ac' cn' cc') cn' (2 * cn') (inF co' ca')) (hT : T ≤ w.heap.size) (l1 : un ≤ 1048576) (l2 : cn ≤ 1048576) (l3 : un' ≤ 1048576) (l4 : cn' ≤ 1048576) :
    Calls Try.prog 11 #[.agg #[.int .i64 pa, .int .i64 sl, .slice au un cu, .slice ac cn cc], .agg #[.int .i64 pa', .int .i64 sl', .slice au' un' cu', .slice ac' cn' cc']] w fun e w' => ∃ r, e = .returned (.bool r) ∧ (r = true ↔ (pa = pa' ∧ sl = sl' ∧ PrEq un un' ub ub' ui ui' ∧ PrEq cn cn' co co' ca ca')) ∧ Below w.heap.size w w' := by
  have H1 : Hid (SlF T w (.slice au un cu) un (2 * un) (upF ub ui)) := h1
  have H2 : Hid (SlF T w (.slice ac cn cc) cn (2 * cn) (inF co ca)) := h2
  have H3 : Hid (SlF T w (.slice au' un' cu') un' (2 * un') (upF ub' ui')) := h3
  have H4 : Hid (SlF T w (.slice ac' cn' cc') cn' (2 * cn') (inF co' ca')) := h4
  clear h1 h2 h3 h4
  have l1' : (un : Int) ≤ 1048576 := by omega
  have l2' : (cn : Int) ≤ 1048576 := by omega
  have l3' : (un' : Int) ≤ 1048576 := by omega
  have l4' : (cn' : Int) ≤ 1048576 := by omega
  have B2 : Below w.heap.size w ((w.alloc (.cells #[.int .i64 pa, .int .i64 sl, .slice au un cu, .slice ac cn cc] 39)).alloc (.cells #[.int .i64 pa', .int .i64 sl', .slice au' un' cu', .slice ac' cn' cc'] 39)) := ((Below.refl _ _).alloc (Nat.le_refl _) _).alloc (by simp) _
  by_cases g1 : pa = pa'
  rotate_left
  · go_enter Try.func11, Try.ntmps11
    go_wp2
    go_ret
    exact ⟨false, rfl, ⟨fun h => (by cases h), fun h => absurd h.1 g1⟩, B2⟩
  subst g1
  by_cases g2 : sl = sl'
  rotate_left
  · go_enter Try.func11, Try.ntmps11
    go_wp2
    go_ret
    exact ⟨false, rfl, ⟨fun h => (by cases h), fun h => absurd h.2.1 g2⟩, B2⟩
  subst g2
  by_cases g3 : un = un'
  rotate_left
  · have g3' : ¬ ((un : Int) = un') := by omega
    go_enter Try.func11, Try.ntmps11
    go_wp2
    go_ret
    exact ⟨false, rfl, ⟨fun h => (by cases h), fun h => absurd h.2.2.1.1 g3⟩, B2⟩
  subst g3
  by_cases g4 : cn = cn'
  rotate_left
  · have g4' : ¬ ((cn : Int) = cn') := by omega
    go_enter Try.func11, Try.ntmps11
    go_wp2
    go_ret
    exact ⟨false, rfl, ⟨fun h => (by cases h), fun h => absurd h.2.2.2.1 g4⟩, B2⟩
  subst g4
  have heq := neUp
  have heq2 := neIns
  go_enter Try.func11, Try.ntmps11
  go_wp2
  go_loopw [5] (fun i wr => ∃ k : Nat, k ≤ un ∧ i = .int .i64 k ∧ Hid (∀ i, i < k → ub i = ub' i ∧ ui i = ui' i) ∧ Below w.heap.size w wr ∧ (∀ i, wr.cell? ⟨w.heap.size, i, none⟩ = (#[.int .i64 pa, .int .i64 sl, .slice au un cu, .slice ac cn cc] : Array Value)[i]?) ∧ (∀ i, wr.cell? ⟨w.heap.size + 1, i, none⟩ = (#[.int .i64 pa, .int .i64 sl, .slice au' un cu', .slice ac' cn cc'] : Array Value)[i]?) ∧ w.heap.size + 1 + 1 ≤ wr.heap.size) (fun i _ => un - (intOf i).toNat)
  case atStart => exact ⟨0, Nat.zero_le _, rfl, fun p hp => by omega, B2, fun i => by simp [go_sem], fun i => by simp [go_sem], by simp⟩
  case round =>
    obtain ⟨j, hk, rfl, HP, hF, K1, K2, z1⟩ := hrel
    by_cases hlt : j < un
    · have hlt' : (j : Int) < (un : Int) := by omega
      obtain ⟨br, offr, cap', hv, _, lbr, hcr⟩ := (H1.out.below hF hT).parts (k := 0) (by omega)
      simp only [Value.slice.injEq] at hv
      obtain ⟨rfl, _, rfl⟩ := hv
      obtain ⟨bs, offs, cap', hv, _, lbs, hcs⟩ := (H3.out.below hF hT).parts (k := 0) (by omega)
      simp only [Value.slice.injEq] at hv
      obtain ⟨rfl, _, rfl⟩ := hv
      have hc1 : wr.cell? ⟨br, offr + j * 2, none⟩ = some (.bool (ub j)) := by rw [← upF_a ub ui]; exact hcr (j * 2) (by omega)
      have hd1 : wr.cell? ⟨br, offr + j * 2 + 1, none⟩ = some (.int .i64 (ui j)) := by rw [← upF_b ub ui]; exact hcr (j * 2 + 1) (by omega)
      have hc2 : wr.cell? ⟨bs, offs + j * 2, none⟩ = some (.bool (ub' j)) := by rw [← upF_a ub' ui']; exact hcs (j * 2) (by omega)
      have hd2 : wr.cell? ⟨bs, offs + j * 2 + 1, none⟩ = some (.int .i64 (ui' j)) := by rw [← upF_b ub' ui']; exact hcs (j * 2 + 1) (by omega)
      clear hcr hcs H1 H2 H3 H4
      cases hq : vB (ub j) (ui j) (ub' j) (ui' j) with
      | true =>
        have HV : Hid (∀ i, i < j + 1 → ub i = ub' i ∧ ui i = ui' i) := pr_on HP.out hq
        go_wp2
        go_quiet (fail)
        go_wp2
        go_roundw
        case rel => exact ⟨j + 1, by omega, by go_num, HV, below_drewN hF _, K1, K2, z1⟩
        case measure => simp [intOf]; omega
      | false =>
        have HN : Hid (¬ PrEq un un ub ub' ui ui') := pr_no hlt hq
        go_wp2
        go_quiet (fail)
        go_wp2
        go_ret
        exact ⟨false, rfl, ⟨fun h => (by cases h), fun h => absurd h.2.2.1 HN.out⟩, below_drewN hF _⟩
    · have hge : (un : Int) ≤ (j : Int) := by omega
      have HU : Hid (PrEq un un ub ub' ui ui') := ⟨rfl, fun i hi => HP.out i (by omega)⟩
      have HF0 : Hid (Below w.heap.size w wr) := hF
      obtain ⟨wo, hwo⟩ : ∃ W, W = wr := ⟨_, rfl⟩
      rw [← hwo] at hF K1 K2 z1 HF0 ⊢
      clear hwo heq H1 H3
      go_wp2
      go_loopw [6] (fun i wr => ∃ k : Nat, k ≤ cn ∧ i = .int .i64 k ∧ Hid (∀ i, i < k → co i = co' i ∧ ca i = ca' i) ∧ Below w.heap.size w wr ∧ (∀ i, wr.cell? ⟨w.heap.size, i, none⟩ = (#[.int .i64 pa, .int .i64 sl, .slice au un cu, .slice ac cn cc] : Array Value)[i]?) ∧ (∀ i, wr.cell? ⟨w.heap.size + 1, i, none⟩ = (#[.int .i64 pa, .int .i64 sl, .slice au' un cu', .slice ac' cn cc'] : Array Value)[i]?) ∧ w.heap.size + 1 + 1 ≤ wr.heap.size) (fun i _ => cn - (intOf i).toNat)
      case atStart => exact ⟨0, Nat.zero_le _, rfl, fun p hp => by omega, hF, K1, K2, z1⟩
      case round =>
        clear hF K1 K2 z1 HF0 HP hge hk
        obtain ⟨m, hk, rfl, HP, hF, K1, K2, z1⟩ := hrel
        by_cases hlt : m < cn
        · have hlt' : (m : Int) < (cn : Int) := by omega
          obtain ⟨br, offr, cap', hv, _, lbr, hcr⟩ := (H2.out.below hF hT).parts (k := 0) (by omega)
          simp only [Value.slice.injEq] at hv
          obtain ⟨rfl, _, rfl⟩ := hv
          obtain ⟨bs, offs, cap', hv, _, lbs, hcs⟩ := (H4.out.below hF hT).parts (k := 0) (by omega)
          simp only [Value.slice.injEq] at hv
          obtain ⟨rfl, _, rfl⟩ := hv
          have hc1 : wr.cell? ⟨br, offr + m * 2, none⟩ = some (.int .i64 (co m)) := by rw [← inF_a co ca]; exact hcr (m * 2) (by omega)
          have hd1 : wr.cell? ⟨br, offr + m * 2 + 1, none⟩ = some (.int .i64 (ca m)) := by rw [← inF_b co ca]; exact hcr (m * 2 + 1) (by omega)
          have hc2 : wr.cell? ⟨bs, offs + m * 2, none⟩ = some (.int .i64 (co' m)) := by rw [← inF_a co' ca']; exact hcs (m * 2) (by omega)
          have hd2 : wr.cell? ⟨bs, offs + m * 2 + 1, none⟩ = some (.int .i64 (ca' m)) := by rw [← inF_b co' ca']; exact hcs (m * 2 + 1) (by omega)
          clear hcr hcs H2 H4
          cases hq : vB (co m) (ca m) (co' m) (ca' m) with
          | true =>
            have HV : Hid (∀ i, i < m + 1 → co i = co' i ∧ ca i = ca' i) := pr_on HP.out hq
            go_wp2
            go_quiet (fail)
            go_wp2
            go_roundw
            case rel => exact ⟨m + 1, by omega, by go_num, HV, below_drewN hF _, K1, K2, z1⟩
            case measure => simp [intOf]; omega
          | false =>
            have HN : Hid (¬ PrEq cn cn co co' ca ca') := pr_no hlt hq
            go_wp2
            go_quiet (fail)
            go_wp2
            go_ret
            exact ⟨false, rfl, ⟨fun h => (by cases h), fun h => absurd h.2.2.2 HN.out⟩, below_drewN hF _⟩
        · have hge : (cn : Int) ≤ (m : Int) := by omega
          go_wp2
          go_ret
          exact ⟨true, rfl, ⟨fun _ => ⟨by trivial, by trivial, HU.out, rfl, fun i hi => HP.out i (by omega)⟩, fun _ => rfl⟩, hF⟩
theorem sameProto_yes (pa sl : Int) (au : Option Addr) (un cu : Nat) (ac : Option Addr) (cn cc : Nat) (pa' sl' : Int) (au' : Option Addr) (un' cu' : Nat) (ac' : Option Addr) (cn' cc' : Nat) (ub ub' : Nat → Bool) (ui ui' co co' ca ca' : Nat → Int) (T : Nat) (w : World) (h1 : SlF T w (.slice au un cu) un (2 * un) (upF ub ui)) (h2 : SlF T w (.slice ac cn cc) cn (2 * cn) (inF co ca)) (h3 : SlF T w (.slice au' un' cu') un' (2 * un') (upF ub' ui')) (h4 : SlF T w (.slice ac' cn' cc') cn' (2 * cn') (inF co' ca')) (hT : T ≤ w.heap.size) (l1 : un ≤ 1048576) (l2 : cn ≤ 1048576) (l3 : un' ≤ 1048576) (l4 : cn' ≤ 1048576) (hV : pa = pa' ∧ sl = sl' ∧ PrEq un un' ub ub' ui ui' ∧ PrEq cn cn' co co' ca ca') :
    Calls Try.prog 11 #[.agg #[.int .i64 pa, .int .i64 sl, .slice au un cu, .slice ac cn cc], .agg #[.int .i64 pa', .int .i64 sl', .slice au' un' cu', .slice ac' cn' cc']] w fun e w' => e = .returned (.bool true) ∧ Below w.heap.size w w' :=
  (sameProto_any pa sl au un cu ac cn cc pa' sl' au' un' cu' ac' cn' cc' ub ub' ui ui' co co' ca ca' T w h1 h2 h3 h4 hT l1 l2 l3 l4).mono fun e w' ⟨r, he, hq, hb⟩ => ⟨by rw [he, hq.2 hV], hb⟩
theorem sameProto_no (pa sl : Int) (au : Option Addr) (un cu : Nat) (ac : Option Addr) (cn cc : Nat) (pa' sl' : Int) (au' : Option Addr) (un' cu' : Nat) (ac' : Option Addr) (cn' cc' : Nat) (ub ub' : Nat → Bool) (ui ui' co co' ca ca' : Nat → Int) (T : Nat) (w : World) (h1 : SlF T w (.slice au un cu) un (2 * un) (upF ub ui)) (h2 : SlF T w (.slice ac cn cc) cn (2 * cn) (inF co ca)) (h3 : SlF T w (.slice au' un' cu') un' (2 * un') (upF ub' ui')) (h4 : SlF T w (.slice ac' cn' cc') cn' (2 * cn') (inF co' ca')) (hT : T ≤ w.heap.size) (l1 : un ≤ 1048576) (l2 : cn ≤ 1048576) (l3 : un' ≤ 1048576) (l4 : cn' ≤ 1048576) (hV : ¬ (pa = pa' ∧ sl = sl' ∧ PrEq un un' ub ub' ui ui' ∧ PrEq cn cn' co co' ca ca')) :
    Calls Try.prog 11 #[.agg #[.int .i64 pa, .int .i64 sl, .slice au un cu, .slice ac cn cc], .agg #[.int .i64 pa', .int .i64 sl', .slice au' un' cu', .slice ac' cn' cc']] w fun e w' => e = .returned (.bool false) ∧ Below w.heap.size w w' :=
  (sameProto_any pa sl au un cu ac cn cc pa' sl' au' un' cu' ac' cn' cc' ub ub' ui ui' co co' ca ca' T w h1 h2 h3 h4 hT l1 l2 l3 l4).mono fun e w' ⟨r, he, hq, hb⟩ => ⟨by rw [he, Bool.eq_false_iff.2 fun h => hV (hq.1 h)], hb⟩
set_option maxHeartbeats 2000000 in
theorem specModuleSame_any (a1 a2 a1' a2' : Option Addr) (c1 c2 c1' c2' L1 L2 n1 n2 : Nat) (X Y : Nat → PtD) (s s' : Nat → ByteArray) (T : Nat) (w : World) (h1 : MdF T w (.slice a1 L1 c1) (.slice a2 n1 c2) L1 X n1 s) (h2 : MdF T w (.slice a1' L2 c1') (.slice a2' n2 c2') L2 Y n2 s') (hT : T ≤ w.heap.size) (hL1 : L1 ≤ 1048576) (hL2 : L2 ≤ 1048576) (hn1 : n1 ≤ 1048576) (hn2 : n2 ≤ 1048576) (hX : ∀ j, j < L1 → PLe (X j) 1048576) (hY : ∀ j, j < L2 → PLe (Y j) 1048576) :
    Calls Try.prog 5 #[.agg #[.slice a1 L1 c1, .slice a2 n1 c2], .agg #[.slice a1' L2 c1', .slice a2' n2 c2']] w fun e w' => ∃ r, e = .returned (.bool r) ∧ (r = true ↔ MEq L1 L2 X Y n1 n2 s s') ∧ Below w.heap.size w w' := by
  have H1 : Hid (PtF T w (.slice a1 L1 c1) L1 X) := h1.1
  have H2 : Hid (PtF T w (.slice a1' L2 c1') L2 Y) := h2.1
  have H3 : Hid (TxF T w (.slice a2 n1 c2) n1 s) := h1.2
  have H4 : Hid (TxF T w (.slice a2' n2 c2') n2 s') := h2.2
  have HX : Hid (∀ j, j < L1 → PLe (X j) 1048576) := hX
  have HY : Hid (∀ j, j < L2 → PLe (Y j) 1048576) := hY
  have l1' : (L1 : Int) ≤ 1048576 := by omega
  have l2' : (L2 : Int) ≤ 1048576 := by omega
  have l3' : (n1 : Int) ≤ 1048576 := by omega
  have l4' : (n2 : Int) ≤ 1048576 := by omega
  clear h1 h2 hX hY
  have B2 : Below w.heap.size w ((w.alloc (.cells #[.slice a1 L1 c1, .slice a2 n1 c2] 30)).alloc (.cells #[.slice a1' L2 c1', .slice a2' n2 c2'] 30)) := ((Below.refl _ _).alloc (Nat.le_refl _) _).alloc (by simp) _
  by_cases hn : L1 = L2
  rotate_left
  · have hn' : ¬ ((L1 : Int) = L2) := by omega
    go_enter Try.func5, Try.ntmps5
    go_wp2
    go_ret
    exact ⟨false, rfl, ⟨fun h => (by cases h), fun h => absurd h.1.1 hn⟩, B2⟩
  subst hn
  by_cases hm : n1 = n2
  rotate_left
  · have hn' : ¬ ((n1 : Int) = n2) := by omega
    go_enter Try.func5, Try.ntmps5
    go_wp2
    go_ret
    exact ⟨false, rfl, ⟨fun h => (by cases h), fun h => absurd h.2.1 hm⟩, B2⟩
  subst hm
  go_enter Try.func5, Try.ntmps5
  go_wp2
  go_loopw [5] (fun i wr => ∃ k : Nat, k ≤ L1 ∧ i = .int .i64 k ∧ Hid (∀ p, p < k → QEq (X p) (Y p)) ∧ Below w.heap.size w wr ∧ (∀ i, wr.cell? ⟨w.heap.size, i, none⟩ = (#[.slice a1 L1 c1, .slice a2 n1 c2] : Array Value)[i]?) ∧ (∀ i, wr.cell? ⟨w.heap.size + 1, i, none⟩ = (#[.slice a1' L1 c1', .slice a2' n1 c2'] : Array Value)[i]?) ∧ w.heap.size + 1 + 1 ≤ wr.heap.size) (fun i _ => L1 - (intOf i).toNat)
  case atStart => exact ⟨0, Nat.zero_le _, rfl, fun p hp => by omega, B2, fun i => by simp [go_sem], fun i => by simp [go_sem], by simp⟩
  case round =>
    obtain ⟨j, hk, rfl, HP, hF, K1, K2, z1⟩ := hrel
    by_cases hlt : j < L1
    · have hlt' : (j : Int) < (L1 : Int) := by omega
      obtain ⟨b, off, rfl, lb, lz, hc⟩ := H1.out.at_ hlt
      obtain ⟨b', off', rfl, lb', lz', hc'⟩ := H2.out.at_ hlt
      obtain ⟨ax, cx, ax', cx', c0, c1, c2, c3, sx, sx'⟩ := (hc j hlt).below hF hT lb
      obtain ⟨ay, cy, ay', cy', d0, d1, d2, d3, sy, sy'⟩ := (hc' j hlt).below hF hT lb'
      obtain ⟨x1, x2⟩ := HX.out j hlt
      obtain ⟨y1, y2⟩ := HY.out j hlt
      obtain ⟨x, hx⟩ : ∃ x, X j = x := ⟨_, rfl⟩
      obtain ⟨u, hu⟩ : ∃ x, Y j = x := ⟨_, rfl⟩
      rw [hx] at c0 c1 c2 c3 sx sx' x1 x2
      rw [hu] at d0 d1 d2 d3 sy sy' y1 y2
      obtain ⟨pa, sl, un, ub, ui, cn, co, ca⟩ := x
      obtain ⟨pa', sl', un', ub', ui', cn', co', ca'⟩ := u
      simp only at c0 c1 c2 c3 sx sx' x1 x2 d0 d1 d2 d3 sy sy' y1 y2
      have hT2 : T ≤ wr.heap.size := Nat.le_trans hT hF.size
      have lw : w.heap.size < wr.heap.size := by omega
      have lw1 : w.heap.size + 1 < wr.heap.size := by omega
      have NQ : Hid (QEq (X j) (Y j) ↔ (pa = pa' ∧ sl = sl' ∧ PrEq un un' ub ub' ui ui' ∧ PrEq cn cn' co co' ca ca')) := by show _ ↔ _; rw [hx, hu]; exact Iff.rfl
      have HF : Hid (Below w.heap.size w wr) := hF
      by_cases hV : pa = pa' ∧ sl = sl' ∧ PrEq un un' ub ub' ui ui' ∧ PrEq cn cn' co co' ca ca'
      · have HV : Hid (QEq (X j) (Y j)) := NQ.out.2 hV
        have HC : Hid (∀ W, Below wr.heap.size wr W → Calls Try.prog 11 #[.agg #[.int .i64 pa, .int .i64 sl, .slice ax un cx, .slice ax' cn cx'], .agg #[.int .i64 pa', .int .i64 sl', .slice ay un' cy, .slice ay' cn' cy']] W fun e w' => e = .returned (.bool true) ∧ Below W.heap.size W w') := fun W hW => sameProto_yes pa sl ax un cx ax' cn cx' pa' sl' ay un' cy ay' cn' cy' ub ub' ui ui' co co' ca ca' T W (sx.below hW hT2) (sx'.below hW hT2) (sy.below hW hT2) (sy'.below hW hT2) (Nat.le_trans hT2 hW.size) x1 x2 y1 y2 hV
        clear hV hc hc' H1 H2 H3 H4 HX HY hx hu sx sy sx' sy' hF
        go_wp2
        go_region_with (go_at_call 11; refine (HC.out _ (Below.refl _ _).drew).mono ?_; rintro e w1 ⟨rfl, b1⟩)
        all_goals
          have hB := below_next HF.out.drew b1
          have k1' : ∀ i, w1.cell? ⟨w.heap.size, i, none⟩ = (#[.slice (some ⟨b, off, none⟩) L1 _, .slice a2 n1 _] : Array Value)[i]? := fun i => ((bcell b1).1 _ i (by simpa using lw)).trans (K1 i)
          have k2' : ∀ i, w1.cell? ⟨w.heap.size + 1, i, none⟩ = (#[.slice (some ⟨b', off', none⟩) L1 _, .slice a2' n1 _] : Array Value)[i]? := fun i => ((bcell b1).1 _ i (by simpa using lw1)).trans (K2 i)
          have z2 : w.heap.size + 1 + 1 ≤ w1.heap.size := Nat.le_trans z1 (by simpa using b1.size)
          clear b1 K1 K2
          go_wp2
          go_roundw
          case rel => exact ⟨j + 1, by omega, by go_num, protos_on HP.out HV.out, hB, k1', k2', z2⟩
          case measure => simp [intOf]; omega
      · have HV : Hid (¬ QEq (X j) (Y j)) := fun h => hV (NQ.out.1 h)
        have HC : Hid (∀ W, Below wr.heap.size wr W → Calls Try.prog 11 #[.agg #[.int .i64 pa, .int .i64 sl, .slice ax un cx, .slice ax' cn cx'], .agg #[.int .i64 pa', .int .i64 sl', .slice ay un' cy, .slice ay' cn' cy']] W fun e w' => e = .returned (.bool false) ∧ Below W.heap.size W w') := fun W hW => sameProto_no pa sl ax un cx ax' cn cx' pa' sl' ay un' cy ay' cn' cy' ub ub' ui ui' co co' ca ca' T W (sx.below hW hT2) (sx'.below hW hT2) (sy.below hW hT2) (sy'.below hW hT2) (Nat.le_trans hT2 hW.size) x1 x2 y1 y2 hV
        clear hV hc hc' H1 H2 H3 H4 HX HY hx hu sx sy sx' sy' hF
        go_wp2
        go_region_with (go_at_call 11; refine (HC.out _ (Below.refl _ _).drew).mono ?_; rintro e w1 ⟨rfl, b1⟩)
        all_goals
          have hB := below_next HF.out.drew b1
          clear b1
          go_wp2
          go_ret
          exact ⟨false, rfl, ⟨fun h => (by cases h), fun h => absurd (h.1.2 j hlt) HV.out⟩, hB⟩
    · have hge : (L1 : Int) ≤ (j : Int) := by omega
      have HU : Hid (∀ i, i < L1 → QEq (X i) (Y i)) := fun i hi => HP.out i (by omega)
      obtain ⟨wo, hwo⟩ : ∃ W, W = wr := ⟨_, rfl⟩
      rw [← hwo] at hF K1 K2 z1 ⊢
      clear hwo H1 H2 HX HY
      go_wp2
      go_loopw [6] (fun i wr => ∃ k : Nat, k ≤ n1 ∧ i = .int .i64 k ∧ Hid (∀ i, i < k → ((s i).toList == (s' i).toList) = true) ∧ Below w.heap.size w wr ∧ (∀ i, wr.cell? ⟨w.heap.size, i, none⟩ = (#[.slice a1 L1 c1, .slice a2 n1 c2] : Array Value)[i]?) ∧ (∀ i, wr.cell? ⟨w.heap.size + 1, i, none⟩ = (#[.slice a1' L1 c1', .slice a2' n1 c2'] : Array Value)[i]?) ∧ w.heap.size + 1 + 1 ≤ wr.heap.size) (fun i _ => n1 - (intOf i).toNat)
      case atStart => exact ⟨0, Nat.zero_le _, rfl, fun p hp => by omega, hF, K1, K2, z1⟩
      case round =>
        clear hF K1 K2 z1 HP hge hk
        obtain ⟨m, hk, rfl, HP, hF, K1, K2, z1⟩ := hrel
        by_cases hlt : m < n1
        · have hlt' : (m : Int) < (n1 : Int) := by omega
          obtain ⟨br, offr, cap', hv, _, lbr, hcr⟩ := SlF.parts (H3.out.below hF hT) (k := 0) (by omega)
          simp only [Value.slice.injEq] at hv
          obtain ⟨rfl, _, rfl⟩ := hv
          obtain ⟨bs, offs, cap', hv, _, lbs, hcs⟩ := SlF.parts (H4.out.below hF hT) (k := 0) (by omega)
          simp only [Value.slice.injEq] at hv
          obtain ⟨rfl, _, rfl⟩ := hv
          have hc1 : wr.cell? ⟨br, offr + m, none⟩ = some (.string (s m)) := hcr m hlt
          have hc2 : wr.cell? ⟨bs, offs + m, none⟩ = some (.string (s' m)) := hcs m hlt
          clear hcr hcs H3 H4
          cases hq : ((s m).toList == (s' m).toList) with
          | true =>
            have HV : Hid (∀ i, i < m + 1 → ((s i).toList == (s' i).toList) = true) := tx_on HP.out hq
            generalize s m = tx at hc1 hq
            generalize s' m = ty at hc2 hq
            go_wp2
            go_quiet (fail)
            go_wp2
            go_roundw
            case rel => exact ⟨m + 1, by omega, by go_num, HV, below_drewN hF _, K1, K2, z1⟩
            case measure => simp [intOf]; omega
          | false =>
            have HN : Hid (¬ SEq n1 n1 s s') := tx_no hlt hq
            generalize s m = tx at hc1 hq
            generalize s' m = ty at hc2 hq
            go_wp2
            go_quiet (fail)
            go_wp2
            go_ret
            exact ⟨false, rfl, ⟨fun h => (by cases h), fun h => absurd h.2 HN.out⟩, below_drewN hF _⟩
        · have hge : (n1 : Int) ≤ (m : Int) := by omega
          go_wp2
          go_ret
          exact ⟨true, rfl, ⟨fun _ => ⟨⟨rfl, HU.out⟩, rfl, fun i hi => HP.out i (by omega)⟩, fun _ => rfl⟩, hF⟩
end Go.Proofs.Ytekhgakededicaa
