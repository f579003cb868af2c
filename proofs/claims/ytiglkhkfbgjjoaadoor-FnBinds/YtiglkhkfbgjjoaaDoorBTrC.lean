/- The program's TreeSame: rows of numbers, nodes, trees. -/
import Derived.Test.YtiglkhkfbgjjoaaDoorProg
import Derived.Test.YtiglkhkfbgjjoaaDoorBTrB
import Derived.Deep.QuietTactic
import Derived.BigQuiet
namespace Go.Proofs.YtiglkhkfbgjjoaaDoor
set_option maxRecDepth 20000
open Go.RowKit
set_option linter.unusedSimpArgs false
set_option linter.unusedVariables false

theorem ieq_no {n1 n2 j : Nat} {y1 y2 : Nat → Int} (hj : j < n1) (h : y1 j ≠ y2 j) : ¬ IEq n1 n2 y1 y2 := fun h2 => h (h2.2 j hj)
theorem ieq_on {j : Nat} {y1 y2 : Nat → Int} (hp : ∀ i, i < j → y1 i = y2 i) (h : y1 j = y2 j) : ∀ i, i < j + 1 → y1 i = y2 i := fun i hi => if e : i = j then e ▸ h else hp i (by omega)
set_option maxHeartbeats 1000000 in
theorem eqInts_any (a1 a2 : Option Addr) (n1 c1 n2 c2 : Nat) (y1 y2 : Nat → Int) (T1 T2 : Nat) (w : World) (h1 : SlF T1 w (.slice a1 n1 c1) n1 n1 (fun i => .int .i64 (y1 i))) (h2 : SlF T2 w (.slice a2 n2 c2) n2 n2 (fun i => .int .i64 (y2 i))) (l1 : n1 ≤ 1048576) (l2 : n2 ≤ 1048576) :
    Calls Tryd.prog 95 #[.slice a1 n1 c1, .slice a2 n2 c2] w fun e w' => ∃ q, e = .returned (.bool q) ∧ (q = true ↔ IEq n1 n2 y1 y2) ∧ Below w.heap.size w w' := by
  have H1 : Hid (SlF w.heap.size w (.slice a1 n1 c1) n1 n1 (fun i => .int .i64 (y1 i))) := h1.here
  have H2 : Hid (SlF w.heap.size w (.slice a2 n2 c2) n2 n2 (fun i => .int .i64 (y2 i))) := h2.here
  have l1' : (n1 : Int) ≤ 1048576 := by omega
  have l2' : (n2 : Int) ≤ 1048576 := by omega
  clear h1 h2
  by_cases hn : n1 = n2
  · subst hn
    go_enter Tryd.func95, Tryd.ntmps95
    go_wp2
    go_loopw [13] (fun i wr => ∃ k : Nat, k ≤ n1 ∧ i = .int .i64 k ∧ (∀ p, p < k → y1 p = y2 p) ∧ Below w.heap.size w wr) (fun i _ => n1 - (intOf i).toNat)
    case atStart => exact ⟨0, Nat.zero_le _, rfl, fun p hp => by omega, Below.refl _ _⟩
    case round =>
      obtain ⟨j, hk, rfl, hp, hF⟩ := hrel
      have HP : Hid (∀ p, p < j → y1 p = y2 p) := hp
      clear hp
      by_cases hlt : j < n1
      · have hlt' : (j : Int) < (n1 : Int) := by omega
        obtain ⟨br, offr, cap', hv, _, lbr, hcr⟩ := H1.out.parts (k := 0) (by omega)
        simp only [Value.slice.injEq] at hv
        obtain ⟨rfl, _, rfl⟩ := hv
        obtain ⟨bs, offs, cap', hv, _, lbs, hcs⟩ := H2.out.parts (k := 0) (by omega)
        simp only [Value.slice.injEq] at hv
        obtain ⟨rfl, _, rfl⟩ := hv
        have hc1 : wr.cell? ⟨br, offr + j, none⟩ = some (.int .i64 (y1 j)) := by rw [hF.cell (p := ⟨br, offr + j, none⟩) lbr]; exact hcr j hlt
        have hc2 : wr.cell? ⟨bs, offs + j, none⟩ = some (.int .i64 (y2 j)) := by rw [hF.cell (p := ⟨bs, offs + j, none⟩) lbs]; exact hcs j hlt
        clear hcr hcs H1 H2
        by_cases hq : y1 j = y2 j
        · have HV : Hid (∀ i, i < j + 1 → y1 i = y2 i) := ieq_on HP.out hq
          rw [hq] at hc1
          generalize y2 j = yy at hc1 hc2
          clear hq
          go_wp2
          go_quiet (fail)
          go_wp2
          go_roundw
          case rel => exact ⟨j + 1, by omega, by go_num, HV.out, below_drewN hF _⟩
          case measure => simp [intOf]; omega
        · have HN : Hid (¬ IEq n1 n1 y1 y2) := ieq_no hlt hq
          generalize y1 j = yx at hc1 hq
          generalize y2 j = yy at hc2 hq
          go_wp2
          go_quiet (fail)
          go_wp2
          go_ret
          exact ⟨false, rfl, ⟨fun h => (by cases h), fun h => absurd h HN.out⟩, below_drewN hF _⟩
      · have hge : (n1 : Int) ≤ (j : Int) := by omega
        go_wp2
        go_ret
        exact ⟨true, rfl, ⟨fun _ => ⟨rfl, fun i hi => HP.out i (by omega)⟩, fun _ => rfl⟩, hF⟩
  · have hn' : ¬ ((n1 : Int) = n2) := by omega
    go_enter Tryd.func95, Tryd.ntmps95
    go_wp2
    go_ret
    exact ⟨false, rfl, ⟨fun h => (by cases h), fun h => absurd h.1 hn⟩, Below.refl _ _⟩
theorem eqInts_yes (a1 a2 : Option Addr) (n1 c1 n2 c2 : Nat) (y1 y2 : Nat → Int) (T1 T2 : Nat) (w : World) (h1 : SlF T1 w (.slice a1 n1 c1) n1 n1 (fun i => .int .i64 (y1 i))) (h2 : SlF T2 w (.slice a2 n2 c2) n2 n2 (fun i => .int .i64 (y2 i))) (l1 : n1 ≤ 1048576) (l2 : n2 ≤ 1048576) (hV : IEq n1 n2 y1 y2) :
    Calls Tryd.prog 95 #[.slice a1 n1 c1, .slice a2 n2 c2] w fun e w' => e = .returned (.bool true) ∧ Below w.heap.size w w' :=
  (eqInts_any a1 a2 n1 c1 n2 c2 y1 y2 T1 T2 w h1 h2 l1 l2).mono fun e w' ⟨q, he, hq, hb⟩ => ⟨by rw [he, hq.2 hV], hb⟩
theorem eqInts_no (a1 a2 : Option Addr) (n1 c1 n2 c2 : Nat) (y1 y2 : Nat → Int) (T1 T2 : Nat) (w : World) (h1 : SlF T1 w (.slice a1 n1 c1) n1 n1 (fun i => .int .i64 (y1 i))) (h2 : SlF T2 w (.slice a2 n2 c2) n2 n2 (fun i => .int .i64 (y2 i))) (l1 : n1 ≤ 1048576) (l2 : n2 ≤ 1048576) (hV : ¬ IEq n1 n2 y1 y2) :
    Calls Tryd.prog 95 #[.slice a1 n1 c1, .slice a2 n2 c2] w fun e w' => e = .returned (.bool false) ∧ Below w.heap.size w w' :=
  (eqInts_any a1 a2 n1 c1 n2 c2 y1 y2 T1 T2 w h1 h2 l1 l2).mono fun e w' ⟨q, he, hq, hb⟩ => ⟨by rw [he, Bool.eq_false_iff.2 fun h => hV (hq.1 h)], hb⟩
set_option maxHeartbeats 1000000 in
theorem knotSame_any (k : Int) (t : ByteArray) (i : Int) (a : Option Addr) (l c : Nat) (k' : Int) (t' : ByteArray) (i' : Int) (a' : Option Addr) (l' c' : Nat) (y y' : Nat → Int) (T1 T2 : Nat) (w : World) (h1 : SlF T1 w (.slice a l c) l l (fun i => .int .i64 (y i))) (h2 : SlF T2 w (.slice a' l' c') l' l' (fun i => .int .i64 (y' i))) (l1 : l ≤ 1048576) (l2 : l' ≤ 1048576) :
    Calls Tryd.prog 45 #[.agg #[.int .i64 k, .string t, .int .i64 i, .slice a l c], .agg #[.int .i64 k', .string t', .int .i64 i', .slice a' l' c']] w fun e w' => ∃ q, e = .returned (.bool q) ∧ (q = true ↔ (k = k' ∧ (t.toList == t'.toList) = true ∧ i = i' ∧ IEq l l' y y')) ∧ Below w.heap.size w w' := by
  have H1 : Hid (SlF w.heap.size w (.slice a l c) l l (fun i => .int .i64 (y i))) := h1.here
  have H2 : Hid (SlF w.heap.size w (.slice a' l' c') l' l' (fun i => .int .i64 (y' i))) := h2.here
  clear h1 h2
  by_cases g1 : k = k'
  rotate_left
  · go_enter Tryd.func45, Tryd.ntmps45
    go_wp2
    go_ret
    exact ⟨false, rfl, ⟨fun h => (by cases h), fun h => absurd h.1 g1⟩, ((Below.refl _ _).alloc (Nat.le_refl _) _).alloc (by simp) _⟩
  subst g1
  cases ht : t.toList == t'.toList with
  | false =>
    go_enter Tryd.func45, Tryd.ntmps45
    go_wp2
    go_ret
    exact ⟨false, rfl, ⟨fun h => (by cases h), fun h => absurd h.2.1 (by simp)⟩, ((Below.refl _ _).alloc (Nat.le_refl _) _).alloc (by simp) _⟩
  | true =>
    by_cases g2 : i = i'
    rotate_left
    · go_enter Tryd.func45, Tryd.ntmps45
      go_wp2
      go_ret
      exact ⟨false, rfl, ⟨fun h => (by cases h), fun h => absurd h.2.2.1 g2⟩, ((Below.refl _ _).alloc (Nat.le_refl _) _).alloc (by simp) _⟩
    subst g2
    have B2 : Below w.heap.size w ((w.alloc (.cells #[.int .i64 k, .string t, .int .i64 i, .slice a l c] 71)).alloc (.cells #[.int .i64 k, .string t', .int .i64 i, .slice a' l' c'] 71)) := ((Below.refl _ _).alloc (Nat.le_refl _) _).alloc (by simp) _
    by_cases hV : IEq l l' y y'
    · go_enter Tryd.func45, Tryd.ntmps45
      go_wp2_with (go_at_call 95; refine (eqInts_yes _ _ _ _ _ _ y y' _ _ _ (H1.out.below B2 (Nat.le_refl _)) (H2.out.below B2 (Nat.le_refl _)) l1 l2 hV).mono ?_; rintro e w1 ⟨rfl, b1⟩; have BB : Hid (Below w.heap.size w w1) := B2.trans (b1.mono (by simp; omega)); clear b1)
      go_ret
      exact ⟨true, rfl, by simp [hV], BB.out⟩
    · go_enter Tryd.func45, Tryd.ntmps45
      go_wp2_with (go_at_call 95; refine (eqInts_no _ _ _ _ _ _ y y' _ _ _ (H1.out.below B2 (Nat.le_refl _)) (H2.out.below B2 (Nat.le_refl _)) l1 l2 hV).mono ?_; rintro e w1 ⟨rfl, b1⟩; have BB : Hid (Below w.heap.size w w1) := B2.trans (b1.mono (by simp; omega)); clear b1)
      go_ret
      exact ⟨false, rfl, ⟨fun h => (by cases h), fun h => absurd h.2.2.2 hV⟩, BB.out⟩
theorem knots_on {X Y : Nat → KnD} {j : Nat} (hp : ∀ i, i < j → KEq (X i) (Y i)) (h : KEq (X j) (Y j)) : ∀ i, i < j + 1 → KEq (X i) (Y i) := fun i hi => if e : i = j then e ▸ h else hp i (by omega)
theorem knotSame_yes (k : Int) (t : ByteArray) (i : Int) (a : Option Addr) (l c : Nat) (k' : Int) (t' : ByteArray) (i' : Int) (a' : Option Addr) (l' c' : Nat) (y y' : Nat → Int) (T1 T2 : Nat) (w : World) (h1 : SlF T1 w (.slice a l c) l l (fun i => .int .i64 (y i))) (h2 : SlF T2 w (.slice a' l' c') l' l' (fun i => .int .i64 (y' i))) (l1 : l ≤ 1048576) (l2 : l' ≤ 1048576) (hV : k = k' ∧ (t.toList == t'.toList) = true ∧ i = i' ∧ IEq l l' y y') :
    Calls Tryd.prog 45 #[.agg #[.int .i64 k, .string t, .int .i64 i, .slice a l c], .agg #[.int .i64 k', .string t', .int .i64 i', .slice a' l' c']] w fun e w' => e = .returned (.bool true) ∧ Below w.heap.size w w' :=
  (knotSame_any k t i a l c k' t' i' a' l' c' y y' T1 T2 w h1 h2 l1 l2).mono fun e w' ⟨q, he, hq, hb⟩ => ⟨by rw [he, hq.2 hV], hb⟩
theorem knotSame_no (k : Int) (t : ByteArray) (i : Int) (a : Option Addr) (l c : Nat) (k' : Int) (t' : ByteArray) (i' : Int) (a' : Option Addr) (l' c' : Nat) (y y' : Nat → Int) (T1 T2 : Nat) (w : World) (h1 : SlF T1 w (.slice a l c) l l (fun i => .int .i64 (y i))) (h2 : SlF T2 w (.slice a' l' c') l' l' (fun i => .int .i64 (y' i))) (l1 : l ≤ 1048576) (l2 : l' ≤ 1048576) (hV : ¬ (k = k' ∧ (t.toList == t'.toList) = true ∧ i = i' ∧ IEq l l' y y')) :
    Calls Tryd.prog 45 #[.agg #[.int .i64 k, .string t, .int .i64 i, .slice a l c], .agg #[.int .i64 k', .string t', .int .i64 i', .slice a' l' c']] w fun e w' => e = .returned (.bool false) ∧ Below w.heap.size w w' :=
  (knotSame_any k t i a l c k' t' i' a' l' c' y y' T1 T2 w h1 h2 l1 l2).mono fun e w' ⟨q, he, hq, hb⟩ => ⟨by rw [he, Bool.eq_false_iff.2 fun h => hV (hq.1 h)], hb⟩
set_option maxHeartbeats 1000000 in
theorem eqKnots_any (a1 a2 : Option Addr) (L1 c1 L2 c2 : Nat) (X Y : Nat → KnD) (T : Nat) (w : World) (h1 : KnF T w (.slice a1 L1 c1) L1 X) (h2 : KnF T w (.slice a2 L2 c2) L2 Y) (hT : T ≤ w.heap.size) (hL1 : L1 ≤ 1048576) (hL2 : L2 ≤ 1048576) (hX : ∀ j, j < L1 → (X j).len ≤ 1048576) (hY : ∀ j, j < L2 → (Y j).len ≤ 1048576) :
    Calls Tryd.prog 44 #[.slice a1 L1 c1, .slice a2 L2 c2, .func (.func 45) #[] #[]] w fun e w' => ∃ q, e = .returned (.bool q) ∧ (q = true ↔ (L1 = L2 ∧ ∀ i, i < L1 → KEq (X i) (Y i))) ∧ Below w.heap.size w w' := by
  have l1' : (L1 : Int) ≤ 1048576 := by omega
  have l2' : (L2 : Int) ≤ 1048576 := by omega
  have H1 : Hid (KnF T w (.slice a1 L1 c1) L1 X) := h1
  have H2 : Hid (KnF T w (.slice a2 L2 c2) L2 Y) := h2
  have HX : Hid (∀ j, j < L1 → (X j).len ≤ 1048576) := hX
  have HY : Hid (∀ j, j < L2 → (Y j).len ≤ 1048576) := hY
  clear h1 h2 hX hY
  by_cases hn : L1 = L2
  · subst hn
    go_enter Tryd.func44, Tryd.ntmps44
    go_wp2
    go_loopw [17] (fun i wr => ∃ k : Nat, k ≤ L1 ∧ i = .int .i64 k ∧ (∀ p, p < k → KEq (X p) (Y p)) ∧ Below w.heap.size w wr) (fun i _ => L1 - (intOf i).toNat)
    case atStart => exact ⟨0, Nat.zero_le _, rfl, fun p hp => by omega, Below.refl _ _⟩
    case round =>
      obtain ⟨j, hk, rfl, hp, hF⟩ := hrel
      have HP : Hid (∀ p, p < j → KEq (X p) (Y p)) := hp
      clear hp
      by_cases hlt : j < L1
      · have hlt' : (j : Int) < (L1 : Int) := by omega
        obtain ⟨b, off, rfl, lb, lz, hc⟩ := H1.out.at_ hlt
        obtain ⟨b', off', rfl, lb', lz', hc'⟩ := H2.out.at_ hlt
        obtain ⟨ax, cx, c0, c1, c2, c3, sx⟩ := (hc j hlt).below hF hT lb
        obtain ⟨ay, cy, d0, d1, d2, d3, sy⟩ := (hc' j hlt).below hF hT lb'
        have x1 := HX.out j hlt
        have x2 := HY.out j hlt
        obtain ⟨x, hx⟩ : ∃ x, X j = x := ⟨_, rfl⟩
        obtain ⟨u, hu⟩ : ∃ x, Y j = x := ⟨_, rfl⟩
        rw [hx] at c0 c1 c2 c3 sx x1
        rw [hu] at d0 d1 d2 d3 sy x2
        have EX : Hid (X j = x) := hx
        have EY : Hid (Y j = u) := hu
        obtain ⟨k, t, i, l, y⟩ := x
        obtain ⟨k', t', i', l', y'⟩ := u
        simp only at c0 c1 c2 c3 sx x1 d0 d1 d2 d3 sy x2
        have SX : Hid (SlF T wr (.slice ax l cx) l l (fun i => .int .i64 (y i))) := sx
        have SY : Hid (SlF T wr (.slice ay l' cy) l' l' (fun i => .int .i64 (y' i))) := sy
        have HF : Hid (Below w.heap.size w wr) := hF
        have hT2 : T ≤ wr.heap.size := Nat.le_trans hT hF.size
        have lb1 : b < wr.heap.size := by omega
        have lb2 : b' < wr.heap.size := by omega
        have NQ : Hid (KEq (X j) (Y j) ↔ (k = k' ∧ (t.toList == t'.toList) = true ∧ i = i' ∧ IEq l l' y y')) := by show _ ↔ _; rw [hx, hu]; exact Iff.rfl
        clear hc hc' H1 H2 HX HY hx hu sx sy hF
        have B2 : Below wr.heap.size wr ((wr.alloc (.cells #[.int .i64 k, .string t, .int .i64 i, .slice ax l cx] 71)).alloc (.cells #[.int .i64 k', .string t', .int .i64 i', .slice ay l' cy] 71)) := ((Below.refl _ _).alloc (Nat.le_refl _) _).alloc (by simp) _
        by_cases hV : k = k' ∧ (t.toList == t'.toList) = true ∧ i = i' ∧ IEq l l' y y'
        · have HV : Hid (k = k' ∧ (t.toList == t'.toList) = true ∧ i = i' ∧ IEq l l' y y') := hV
          clear hV
          go_wp2_with (go_at_call 45; refine (knotSame_yes _ _ _ _ _ _ _ _ _ _ _ _ y y' _ _ _ (SX.out.below B2 hT2) (SY.out.below B2 hT2) x1 x2 HV.out).mono ?_; rintro e w1 ⟨rfl, b1⟩; have BB : Hid (Below w.heap.size w w1) := below_next HF.out (B2.trans (b1.mono (by simp; omega))); clear b1)
          go_roundw
          case rel => exact ⟨j + 1, by omega, by go_num, knots_on HP.out (NQ.out.2 HV.out), BB.out⟩
          case measure => simp [intOf]; omega
        · have HV : Hid (¬ (k = k' ∧ (t.toList == t'.toList) = true ∧ i = i' ∧ IEq l l' y y')) := hV
          clear hV
          go_wp2_with (go_at_call 45; refine (knotSame_no _ _ _ _ _ _ _ _ _ _ _ _ y y' _ _ _ (SX.out.below B2 hT2) (SY.out.below B2 hT2) x1 x2 HV.out).mono ?_; rintro e w1 ⟨rfl, b1⟩; have BB : Hid (Below w.heap.size w w1) := below_next HF.out (B2.trans (b1.mono (by simp; omega))); clear b1)
          go_ret
          exact ⟨false, rfl, ⟨fun h => (by cases h), fun h => absurd (NQ.out.1 (h.2 j hlt)) HV.out⟩, BB.out⟩
      · have hge : (L1 : Int) ≤ (j : Int) := by omega
        go_wp2
        go_ret
        exact ⟨true, rfl, ⟨fun _ => ⟨by trivial, fun i hi => HP.out i (by omega)⟩, fun _ => rfl⟩, hF⟩
  · have hn' : ¬ ((L1 : Int) = L2) := by omega
    go_enter Tryd.func44, Tryd.ntmps44
    go_wp2
    go_ret
    exact ⟨false, rfl, ⟨fun h => (by cases h), fun h => absurd h.1 hn⟩, Below.refl _ _⟩
/-- Two trees are alike. -/
def TEq (L1 L2 : Nat) (p1 p2 : Int) (X Y : Nat → KnD) : Prop := p1 = p2 ∧ L1 = L2 ∧ ∀ i, i < L1 → KEq (X i) (Y i)
theorem implTreeSame_any (a1 a2 : Option Addr) (c1 c2 L1 L2 : Nat) (p1 p2 : Int) (X Y : Nat → KnD) (T : Nat) (w : World) (h1 : KnF T w (.slice a1 L1 c1) L1 X) (h2 : KnF T w (.slice a2 L2 c2) L2 Y) (hT : T ≤ w.heap.size) (hL1 : L1 ≤ 1048576) (hL2 : L2 ≤ 1048576) (hX : ∀ j, j < L1 → (X j).len ≤ 1048576) (hY : ∀ j, j < L2 → (Y j).len ≤ 1048576) :
    Calls Tryd.prog 22 #[.agg #[.slice a1 L1 c1, .int .i64 p1], .agg #[.slice a2 L2 c2, .int .i64 p2]] w fun e w' => ∃ q, e = .returned (.bool q) ∧ (q = true ↔ TEq L1 L2 p1 p2 X Y) ∧ Below w.heap.size w w' := by
  have B2 : Below w.heap.size w ((w.alloc (.cells #[.slice a1 L1 c1, .int .i64 p1] 41)).alloc (.cells #[.slice a2 L2 c2, .int .i64 p2] 41)) := ((Below.refl _ _).alloc (Nat.le_refl _) _).alloc (by simp) _
  by_cases hp : p1 = p2
  · subst hp
    have HE := eqKnots_any a1 a2 L1 c1 L2 c2 X Y T _ (h1.below B2 hT) (h2.below B2 hT) (by simp; omega) hL1 hL2 hX hY
    have HEE : Hid (Calls _ _ _ _ _) := HE
    clear h1 h2 hX hY HE
    go_enter Tryd.func22, Tryd.ntmps22
    go_wp2_with (go_at_call 44; refine HEE.out.mono ?_; rintro e w1 ⟨q, rfl, hq, b1⟩)
    go_ret
    exact ⟨q, by simp, ⟨fun h => ⟨rfl, hq.1 h⟩, fun h => hq.2 h.2⟩, B2.trans (b1.mono (by simp; omega))⟩
  · clear h1 h2 hX hY
    go_enter Tryd.func22, Tryd.ntmps22
    go_wp2
    go_ret
    exact ⟨false, rfl, ⟨fun h => (by cases h), fun h => absurd h.1 hp⟩, B2⟩
end Go.Proofs.YtiglkhkfbgjjoaaDoor
