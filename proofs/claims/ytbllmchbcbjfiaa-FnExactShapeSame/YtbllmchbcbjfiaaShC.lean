/- ShapeSame of both packages: rows of values, nodes, shapes. -/
import Derived.Test.YtbllmchbcbjfiaaProg
import Derived.Test.YtbllmchbcbjfiaaShB
import Derived.Laws.StructEq
import Derived.Deep.QuietTactic
import Derived.BigQuiet
namespace Go.Proofs.Ytbllmchbcbjfiaa
set_option maxRecDepth 20000
open Go.RowKit
set_option linter.unusedSimpArgs false
set_option linter.unusedVariables false

def vB (t n t' n' : Int) : Bool := t == t' && n == n'
theorem eqVB (t n t' n' : Int) (w : World) : (binOp .eql 42 (.agg #[.int .i64 t, .int .i64 n]) (.agg #[.int .i64 t', .int .i64 n'])).run Try.prog w = .ok (.bool (vB t n t' n')) w := by
  have u3 := Try.underlying3
  have a3 := Try.isAgg3
  have z3 := Try.sizeOf3
  have hS : Try.prog.underlying 42 = some (.struct (Try.prog.fieldsOf 42)) := by kernel_rfl
  have hp : Try.prog.stoodInHeld 42 = false := by kernel_rfl
  rw [run_eql_struct, show (10000 : Nat) = 9999 + 1 from rfl, run_equalIn_agg w 9999 42 _ _ hS hp]
  simp only [Program.fieldsOf, Try.underlying42]
  go_simp
  unfold vB
  by_cases h1 : t = t' <;> by_cases h2 : n = n' <;> simp [h1, h2]
theorem neVB (t n t' n' : Int) (w : World) : (binOp .neq 42 (.agg #[.int .i64 t, .int .i64 n]) (.agg #[.int .i64 t', .int .i64 n'])).run Try.prog w = .ok (.bool (!vB t n t' n')) w := by
  have h := eqVB t n t' n' w
  rw [run_eql_struct] at h
  rw [run_neq_struct]
  generalize (Op.equalIn 10000 42 (.agg #[.int .i64 t, .int .i64 n]) (.agg #[.int .i64 t', .int .i64 n'])).run Try.prog w = r at h
  cases r with
  | ok b w1 =>
    simp only [Result.andThen_ok, Result.ok.injEq, Value.bool.injEq] at h
    obtain ⟨rfl, rfl⟩ := h
    rfl
  | _ => simp [Result.andThen] at h
theorem veq_no {n1 n2 j : Nat} {y1 y2 : Nat → Int} (hj : j < n1) (h : vB (y1 (2 * j)) (y1 (2 * j + 1)) (y2 (2 * j)) (y2 (2 * j + 1)) = false) : ¬ VEq n1 n2 y1 y2 := by
  rintro ⟨_, h2⟩
  unfold vB at h
  rw [h2 (2 * j) (by omega), h2 (2 * j + 1) (by omega)] at h
  simp at h
theorem veq_on {n1 j : Nat} {y1 y2 : Nat → Int} (hp : ∀ i, i < 2 * j → y1 i = y2 i) (h : vB (y1 (2 * j)) (y1 (2 * j + 1)) (y2 (2 * j)) (y2 (2 * j + 1)) = true) : ∀ i, i < 2 * (j + 1) → y1 i = y2 i := fun i hi => by
  unfold vB at h
  simp only [Bool.and_eq_true, beq_iff_eq] at h
  by_cases e : i = 2 * j
  · subst e; exact h.1
  · by_cases e2 : i = 2 * j + 1
    · subst e2; exact h.2
    · exact hp i (by omega)
set_option maxHeartbeats 1000000 in
theorem l7Vals_any (a1 a2 : Option Addr) (n1 c1 n2 c2 : Nat) (y1 y2 : Nat → Int) (T1 T2 : Nat) (w : World) (h1 : SlF T1 w (.slice a1 n1 c1) n1 (2 * n1) (fun i => .int .i64 (y1 i))) (h2 : SlF T2 w (.slice a2 n2 c2) n2 (2 * n2) (fun i => .int .i64 (y2 i))) (l1 : n1 ≤ 1048576) (l2 : n2 ≤ 1048576) :
    Calls Try.prog 11 #[.slice a1 n1 c1, .slice a2 n2 c2] w fun e w' => ∃ q, e = .returned (.bool q) ∧ (q = true ↔ VEq n1 n2 y1 y2) ∧ Below w.heap.size w w' := by
  have H1 : Hid (SlF w.heap.size w (.slice a1 n1 c1) n1 (2 * n1) (fun i => .int .i64 (y1 i))) := h1.here
  have H2 : Hid (SlF w.heap.size w (.slice a2 n2 c2) n2 (2 * n2) (fun i => .int .i64 (y2 i))) := h2.here
  have l1' : (n1 : Int) ≤ 1048576 := by omega
  have l2' : (n2 : Int) ≤ 1048576 := by omega
  clear h1 h2
  by_cases hn : n1 = n2
  · subst hn
    have heq := neVB
    go_enter Try.func11, Try.ntmps11
    go_wp2
    go_loopw [5] (fun i wr => ∃ k : Nat, k ≤ n1 ∧ i = .int .i64 k ∧ (∀ p, p < 2 * k → y1 p = y2 p) ∧ Below w.heap.size w wr) (fun i _ => n1 - (intOf i).toNat)
    case atStart => exact ⟨0, Nat.zero_le _, rfl, fun p hp => by omega, Below.refl _ _⟩
    case round =>
      obtain ⟨j, hk, rfl, hp, hF⟩ := hrel
      have HP : Hid (∀ p, p < 2 * j → y1 p = y2 p) := hp
      clear hp
      by_cases hlt : j < n1
      · have hlt' : (j : Int) < (n1 : Int) := by omega
        obtain ⟨br, offr, cap', hv, _, lbr, hcr⟩ := H1.out.parts (k := 0) (by omega)
        simp only [Value.slice.injEq] at hv
        obtain ⟨rfl, _, rfl⟩ := hv
        obtain ⟨bs, offs, cap', hv, _, lbs, hcs⟩ := H2.out.parts (k := 0) (by omega)
        simp only [Value.slice.injEq] at hv
        obtain ⟨rfl, _, rfl⟩ := hv
        have hc1 : wr.cell? ⟨br, offr + j * 2, none⟩ = some (.int .i64 (y1 (2 * j))) := by rw [hF.cell (p := ⟨br, offr + j * 2, none⟩) lbr, Nat.mul_comm]; exact hcr (2 * j) (by omega)
        have hd1 : wr.cell? ⟨br, offr + j * 2 + 1, none⟩ = some (.int .i64 (y1 (2 * j + 1))) := by rw [hF.cell (p := ⟨br, offr + j * 2 + 1, none⟩) lbr, Nat.mul_comm]; exact hcr (2 * j + 1) (by omega)
        have hc2 : wr.cell? ⟨bs, offs + j * 2, none⟩ = some (.int .i64 (y2 (2 * j))) := by rw [hF.cell (p := ⟨bs, offs + j * 2, none⟩) lbs, Nat.mul_comm]; exact hcs (2 * j) (by omega)
        have hd2 : wr.cell? ⟨bs, offs + j * 2 + 1, none⟩ = some (.int .i64 (y2 (2 * j + 1))) := by rw [hF.cell (p := ⟨bs, offs + j * 2 + 1, none⟩) lbs, Nat.mul_comm]; exact hcs (2 * j + 1) (by omega)
        clear hcr hcs H1 H2
        cases hq : vB (y1 (2 * j)) (y1 (2 * j + 1)) (y2 (2 * j)) (y2 (2 * j + 1)) with
        | true =>
          have HV : Hid (∀ i, i < 2 * (j + 1) → y1 i = y2 i) := veq_on (n1 := n1) HP.out hq
          go_wp2
          go_quiet (fail)
          go_wp2
          go_roundw
          case rel => exact ⟨j + 1, by omega, by go_num, HV.out, below_drewN hF _⟩
          case measure => simp [intOf]; omega
        | false =>
          have HN : Hid (¬ VEq n1 n1 y1 y2) := veq_no hlt hq
          go_wp2
          go_quiet (fail)
          go_wp2
          go_ret
          exact ⟨false, rfl, ⟨fun h => (by cases h), fun h => absurd h HN.out⟩, below_drewN hF _⟩
      · have hge : (n1 : Int) ≤ (j : Int) := by omega
        clear heq
        go_wp2
        go_ret
        exact ⟨true, rfl, ⟨fun _ => ⟨rfl, fun i hi => HP.out i (by omega)⟩, fun _ => rfl⟩, hF⟩
  · have hn' : ¬ ((n1 : Int) = n2) := by omega
    go_enter Try.func11, Try.ntmps11
    go_wp2
    go_ret
    exact ⟨false, rfl, ⟨fun h => (by cases h), fun h => absurd h.1 hn⟩, Below.refl _ _⟩
theorem l7Vals_any_yes (a1 a2 : Option Addr) (n1 c1 n2 c2 : Nat) (y1 y2 : Nat → Int) (T1 T2 : Nat) (w : World) (h1 : SlF T1 w (.slice a1 n1 c1) n1 (2 * n1) (fun i => .int .i64 (y1 i))) (h2 : SlF T2 w (.slice a2 n2 c2) n2 (2 * n2) (fun i => .int .i64 (y2 i))) (l1 : n1 ≤ 1048576) (l2 : n2 ≤ 1048576) (hV : VEq n1 n2 y1 y2) :
    Calls Try.prog 11 #[.slice a1 n1 c1, .slice a2 n2 c2] w fun e w' => e = .returned (.bool true) ∧ Below w.heap.size w w' :=
  (l7Vals_any a1 a2 n1 c1 n2 c2 y1 y2 T1 T2 w h1 h2 l1 l2).mono fun e w' ⟨q, he, hq, hb⟩ => ⟨by rw [he, hq.2 hV], hb⟩
theorem l7Vals_any_no (a1 a2 : Option Addr) (n1 c1 n2 c2 : Nat) (y1 y2 : Nat → Int) (T1 T2 : Nat) (w : World) (h1 : SlF T1 w (.slice a1 n1 c1) n1 (2 * n1) (fun i => .int .i64 (y1 i))) (h2 : SlF T2 w (.slice a2 n2 c2) n2 (2 * n2) (fun i => .int .i64 (y2 i))) (l1 : n1 ≤ 1048576) (l2 : n2 ≤ 1048576) (hV : ¬ VEq n1 n2 y1 y2) :
    Calls Try.prog 11 #[.slice a1 n1 c1, .slice a2 n2 c2] w fun e w' => e = .returned (.bool false) ∧ Below w.heap.size w w' :=
  (l7Vals_any a1 a2 n1 c1 n2 c2 y1 y2 T1 T2 w h1 h2 l1 l2).mono fun e w' ⟨q, he, hq, hb⟩ => ⟨by rw [he, Bool.eq_false_iff.2 fun h => hV (hq.1 h)], hb⟩
set_option maxHeartbeats 1000000 in
theorem Equal_any (a1 a2 : Option Addr) (n1 c1 n2 c2 : Nat) (y1 y2 : Nat → Int) (T1 T2 : Nat) (w : World) (h1 : SlF T1 w (.slice a1 n1 c1) n1 (2 * n1) (fun i => .int .i64 (y1 i))) (h2 : SlF T2 w (.slice a2 n2 c2) n2 (2 * n2) (fun i => .int .i64 (y2 i))) (l1 : n1 ≤ 1048576) (l2 : n2 ≤ 1048576) :
    Calls Try.prog 14 #[.slice a1 n1 c1, .slice a2 n2 c2] w fun e w' => ∃ q, e = .returned (.bool q) ∧ (q = true ↔ VEq n1 n2 y1 y2) ∧ Below w.heap.size w w' := by
  have H1 : Hid (SlF w.heap.size w (.slice a1 n1 c1) n1 (2 * n1) (fun i => .int .i64 (y1 i))) := h1.here
  have H2 : Hid (SlF w.heap.size w (.slice a2 n2 c2) n2 (2 * n2) (fun i => .int .i64 (y2 i))) := h2.here
  have l1' : (n1 : Int) ≤ 1048576 := by omega
  have l2' : (n2 : Int) ≤ 1048576 := by omega
  clear h1 h2
  by_cases hn : n1 = n2
  · subst hn
    have heq := neVB
    go_enter Try.func14, Try.ntmps14
    go_wp2
    go_loopw [13] (fun i wr => ∃ k : Nat, k ≤ n1 ∧ i = .int .i64 k ∧ (∀ p, p < 2 * k → y1 p = y2 p) ∧ Below w.heap.size w wr) (fun i _ => n1 - (intOf i).toNat)
    case atStart => exact ⟨0, Nat.zero_le _, rfl, fun p hp => by omega, Below.refl _ _⟩
    case round =>
      obtain ⟨j, hk, rfl, hp, hF⟩ := hrel
      have HP : Hid (∀ p, p < 2 * j → y1 p = y2 p) := hp
      clear hp
      by_cases hlt : j < n1
      · have hlt' : (j : Int) < (n1 : Int) := by omega
        obtain ⟨br, offr, cap', hv, _, lbr, hcr⟩ := H1.out.parts (k := 0) (by omega)
        simp only [Value.slice.injEq] at hv
        obtain ⟨rfl, _, rfl⟩ := hv
        obtain ⟨bs, offs, cap', hv, _, lbs, hcs⟩ := H2.out.parts (k := 0) (by omega)
        simp only [Value.slice.injEq] at hv
        obtain ⟨rfl, _, rfl⟩ := hv
        have hc1 : wr.cell? ⟨br, offr + j * 2, none⟩ = some (.int .i64 (y1 (2 * j))) := by rw [hF.cell (p := ⟨br, offr + j * 2, none⟩) lbr, Nat.mul_comm]; exact hcr (2 * j) (by omega)
        have hd1 : wr.cell? ⟨br, offr + j * 2 + 1, none⟩ = some (.int .i64 (y1 (2 * j + 1))) := by rw [hF.cell (p := ⟨br, offr + j * 2 + 1, none⟩) lbr, Nat.mul_comm]; exact hcr (2 * j + 1) (by omega)
        have hc2 : wr.cell? ⟨bs, offs + j * 2, none⟩ = some (.int .i64 (y2 (2 * j))) := by rw [hF.cell (p := ⟨bs, offs + j * 2, none⟩) lbs, Nat.mul_comm]; exact hcs (2 * j) (by omega)
        have hd2 : wr.cell? ⟨bs, offs + j * 2 + 1, none⟩ = some (.int .i64 (y2 (2 * j + 1))) := by rw [hF.cell (p := ⟨bs, offs + j * 2 + 1, none⟩) lbs, Nat.mul_comm]; exact hcs (2 * j + 1) (by omega)
        clear hcr hcs H1 H2
        cases hq : vB (y1 (2 * j)) (y1 (2 * j + 1)) (y2 (2 * j)) (y2 (2 * j + 1)) with
        | true =>
          have HV : Hid (∀ i, i < 2 * (j + 1) → y1 i = y2 i) := veq_on (n1 := n1) HP.out hq
          go_wp2
          go_quiet (fail)
          go_wp2
          go_roundw
          case rel => exact ⟨j + 1, by omega, by go_num, HV.out, below_drewN hF _⟩
          case measure => simp [intOf]; omega
        | false =>
          have HN : Hid (¬ VEq n1 n1 y1 y2) := veq_no hlt hq
          go_wp2
          go_quiet (fail)
          go_wp2
          go_ret
          exact ⟨false, rfl, ⟨fun h => (by cases h), fun h => absurd h HN.out⟩, below_drewN hF _⟩
      · have hge : (n1 : Int) ≤ (j : Int) := by omega
        clear heq
        go_wp2
        go_ret
        exact ⟨true, rfl, ⟨fun _ => ⟨rfl, fun i hi => HP.out i (by omega)⟩, fun _ => rfl⟩, hF⟩
  · have hn' : ¬ ((n1 : Int) = n2) := by omega
    go_enter Try.func14, Try.ntmps14
    go_wp2
    go_ret
    exact ⟨false, rfl, ⟨fun h => (by cases h), fun h => absurd h.1 hn⟩, Below.refl _ _⟩
theorem Equal_any_yes (a1 a2 : Option Addr) (n1 c1 n2 c2 : Nat) (y1 y2 : Nat → Int) (T1 T2 : Nat) (w : World) (h1 : SlF T1 w (.slice a1 n1 c1) n1 (2 * n1) (fun i => .int .i64 (y1 i))) (h2 : SlF T2 w (.slice a2 n2 c2) n2 (2 * n2) (fun i => .int .i64 (y2 i))) (l1 : n1 ≤ 1048576) (l2 : n2 ≤ 1048576) (hV : VEq n1 n2 y1 y2) :
    Calls Try.prog 14 #[.slice a1 n1 c1, .slice a2 n2 c2] w fun e w' => e = .returned (.bool true) ∧ Below w.heap.size w w' :=
  (Equal_any a1 a2 n1 c1 n2 c2 y1 y2 T1 T2 w h1 h2 l1 l2).mono fun e w' ⟨q, he, hq, hb⟩ => ⟨by rw [he, hq.2 hV], hb⟩
theorem Equal_any_no (a1 a2 : Option Addr) (n1 c1 n2 c2 : Nat) (y1 y2 : Nat → Int) (T1 T2 : Nat) (w : World) (h1 : SlF T1 w (.slice a1 n1 c1) n1 (2 * n1) (fun i => .int .i64 (y1 i))) (h2 : SlF T2 w (.slice a2 n2 c2) n2 (2 * n2) (fun i => .int .i64 (y2 i))) (l1 : n1 ≤ 1048576) (l2 : n2 ≤ 1048576) (hV : ¬ VEq n1 n2 y1 y2) :
    Calls Try.prog 14 #[.slice a1 n1 c1, .slice a2 n2 c2] w fun e w' => e = .returned (.bool false) ∧ Below w.heap.size w w' :=
  (Equal_any a1 a2 n1 c1 n2 c2 y1 y2 T1 T2 w h1 h2 l1 l2).mono fun e w' ⟨q, he, hq, hb⟩ => ⟨by rw [he, Bool.eq_false_iff.2 fun h => hV (hq.1 h)], hb⟩
set_option maxHeartbeats 1000000 in
theorem sameNode_any (k s n m : Int) (t : ByteArray) (a : Option Addr) (l c : Nat) (k' s' n' m' : Int) (t' : ByteArray) (a' : Option Addr) (l' c' : Nat) (y y' : Nat → Int) (T1 T2 : Nat) (w : World) (h1 : SlF T1 w (.slice a l c) l (2 * l) (fun i => .int .i64 (y i))) (h2 : SlF T2 w (.slice a' l' c') l' (2 * l') (fun i => .int .i64 (y' i))) (l1 : l ≤ 1048576) (l2 : l' ≤ 1048576) :
    Calls Try.prog 16 #[.agg #[.int .i64 k, .int .i64 s, .int .i64 n, .int .i64 m, .string t, .slice a l c], .agg #[.int .i64 k', .int .i64 s', .int .i64 n', .int .i64 m', .string t', .slice a' l' c']] w fun e w' => ∃ q, e = .returned (.bool q) ∧ (q = true ↔ (k = k' ∧ s = s' ∧ n = n' ∧ m = m' ∧ (t.toList == t'.toList) = true ∧ VEq l l' y y')) ∧ Below w.heap.size w w' := by
  have H1 : Hid (SlF w.heap.size w (.slice a l c) l (2 * l) (fun i => .int .i64 (y i))) := h1.here
  have H2 : Hid (SlF w.heap.size w (.slice a' l' c') l' (2 * l') (fun i => .int .i64 (y' i))) := h2.here
  clear h1 h2
  by_cases g1 : k = k'
  rotate_left
  · go_enter Try.func16, Try.ntmps16
    go_wp2
    go_ret
    exact ⟨false, rfl, ⟨fun h => (by cases h), fun h => absurd h.1 g1⟩, ((Below.refl _ _).alloc (Nat.le_refl _) _).alloc (by simp) _⟩
  by_cases g2 : s = s'
  rotate_left
  · go_enter Try.func16, Try.ntmps16
    go_wp2
    go_ret
    exact ⟨false, rfl, ⟨fun h => (by cases h), fun h => absurd h.2.1 g2⟩, ((Below.refl _ _).alloc (Nat.le_refl _) _).alloc (by simp) _⟩
  by_cases g3 : n = n'
  rotate_left
  · go_enter Try.func16, Try.ntmps16
    go_wp2
    go_ret
    exact ⟨false, rfl, ⟨fun h => (by cases h), fun h => absurd h.2.2.1 g3⟩, ((Below.refl _ _).alloc (Nat.le_refl _) _).alloc (by simp) _⟩
  by_cases g4 : m = m'
  rotate_left
  · go_enter Try.func16, Try.ntmps16
    go_wp2
    go_ret
    exact ⟨false, rfl, ⟨fun h => (by cases h), fun h => absurd h.2.2.2.1 g4⟩, ((Below.refl _ _).alloc (Nat.le_refl _) _).alloc (by simp) _⟩
  subst g1 g2 g3 g4
  cases ht : t.toList == t'.toList with
  | false =>
    go_enter Try.func16, Try.ntmps16
    go_wp2
    go_ret
    exact ⟨false, rfl, ⟨fun h => (by cases h), fun h => absurd h.2.2.2.2.1 (by simp)⟩, ((Below.refl _ _).alloc (Nat.le_refl _) _).alloc (by simp) _⟩
  | true =>
    have B2 : Below w.heap.size w ((w.alloc (.cells #[.int .i64 k, .int .i64 s, .int .i64 n, .int .i64 m, .string t, .slice a l c] 38)).alloc (.cells #[.int .i64 k, .int .i64 s, .int .i64 n, .int .i64 m, .string t', .slice a' l' c'] 38)) := ((Below.refl _ _).alloc (Nat.le_refl _) _).alloc (by simp) _
    by_cases hV : VEq l l' y y'
    · go_enter Try.func16, Try.ntmps16
      go_wp2_with (go_at_call 14; refine (Equal_any_yes _ _ _ _ _ _ y y' _ _ _ (H1.out.below B2 (Nat.le_refl _)) (H2.out.below B2 (Nat.le_refl _)) l1 l2 hV).mono ?_; rintro e w1 ⟨rfl, b1⟩; have BB : Hid (Below w.heap.size w w1) := B2.trans (b1.mono (by simp; omega)); clear b1)
      go_ret
      exact ⟨true, rfl, by simp [hV], BB.out⟩
    · go_enter Try.func16, Try.ntmps16
      go_wp2_with (go_at_call 14; refine (Equal_any_no _ _ _ _ _ _ y y' _ _ _ (H1.out.below B2 (Nat.le_refl _)) (H2.out.below B2 (Nat.le_refl _)) l1 l2 hV).mono ?_; rintro e w1 ⟨rfl, b1⟩; have BB : Hid (Below w.heap.size w w1) := B2.trans (b1.mono (by simp; omega)); clear b1)
      go_ret
      exact ⟨false, rfl, ⟨fun h => (by cases h), fun h => absurd h.2.2.2.2.2 hV⟩, BB.out⟩
theorem nodes_on {X Y : Nat → NodeD} {j : Nat} (hp : ∀ i, i < j → NEq (X i) (Y i)) (h : NEq (X j) (Y j)) : ∀ i, i < j + 1 → NEq (X i) (Y i) := fun i hi => if e : i = j then e ▸ h else hp i (by omega)
theorem sameNode_yes (k s n m : Int) (t : ByteArray) (a : Option Addr) (l c : Nat) (k' s' n' m' : Int) (t' : ByteArray) (a' : Option Addr) (l' c' : Nat) (y y' : Nat → Int) (T1 T2 : Nat) (w : World) (h1 : SlF T1 w (.slice a l c) l (2 * l) (fun i => .int .i64 (y i))) (h2 : SlF T2 w (.slice a' l' c') l' (2 * l') (fun i => .int .i64 (y' i))) (l1 : l ≤ 1048576) (l2 : l' ≤ 1048576) (hV : k = k' ∧ s = s' ∧ n = n' ∧ m = m' ∧ (t.toList == t'.toList) = true ∧ VEq l l' y y') :
    Calls Try.prog 16 #[.agg #[.int .i64 k, .int .i64 s, .int .i64 n, .int .i64 m, .string t, .slice a l c], .agg #[.int .i64 k', .int .i64 s', .int .i64 n', .int .i64 m', .string t', .slice a' l' c']] w fun e w' => e = .returned (.bool true) ∧ Below w.heap.size w w' :=
  (sameNode_any k s n m t a l c k' s' n' m' t' a' l' c' y y' T1 T2 w h1 h2 l1 l2).mono fun e w' ⟨q, he, hq, hb⟩ => ⟨by rw [he, hq.2 hV], hb⟩
theorem sameNode_no (k s n m : Int) (t : ByteArray) (a : Option Addr) (l c : Nat) (k' s' n' m' : Int) (t' : ByteArray) (a' : Option Addr) (l' c' : Nat) (y y' : Nat → Int) (T1 T2 : Nat) (w : World) (h1 : SlF T1 w (.slice a l c) l (2 * l) (fun i => .int .i64 (y i))) (h2 : SlF T2 w (.slice a' l' c') l' (2 * l') (fun i => .int .i64 (y' i))) (l1 : l ≤ 1048576) (l2 : l' ≤ 1048576) (hV : ¬ (k = k' ∧ s = s' ∧ n = n' ∧ m = m' ∧ (t.toList == t'.toList) = true ∧ VEq l l' y y')) :
    Calls Try.prog 16 #[.agg #[.int .i64 k, .int .i64 s, .int .i64 n, .int .i64 m, .string t, .slice a l c], .agg #[.int .i64 k', .int .i64 s', .int .i64 n', .int .i64 m', .string t', .slice a' l' c']] w fun e w' => e = .returned (.bool false) ∧ Below w.heap.size w w' :=
  (sameNode_any k s n m t a l c k' s' n' m' t' a' l' c' y y' T1 T2 w h1 h2 l1 l2).mono fun e w' ⟨q, he, hq, hb⟩ => ⟨by rw [he, Bool.eq_false_iff.2 fun h => hV (hq.1 h)], hb⟩
set_option maxHeartbeats 1000000 in
theorem EqualFunc_any (a1 a2 : Option Addr) (L1 c1 L2 c2 : Nat) (X Y : Nat → NodeD) (T : Nat) (w : World) (h1 : NdF T w (.slice a1 L1 c1) L1 X) (h2 : NdF T w (.slice a2 L2 c2) L2 Y) (hT : T ≤ w.heap.size) (hL1 : L1 ≤ 1048576) (hL2 : L2 ≤ 1048576) (hX : ∀ j, j < L1 → (X j).len ≤ 1048576) (hY : ∀ j, j < L2 → (Y j).len ≤ 1048576) :
    Calls Try.prog 15 #[.slice a1 L1 c1, .slice a2 L2 c2, .func (.func 16) #[] #[]] w fun e w' => ∃ q, e = .returned (.bool q) ∧ (q = true ↔ (L1 = L2 ∧ ∀ i, i < L1 → NEq (X i) (Y i))) ∧ Below w.heap.size w w' := by
  have l1' : (L1 : Int) ≤ 1048576 := by omega
  have l2' : (L2 : Int) ≤ 1048576 := by omega
  have H1 : Hid (NdF T w (.slice a1 L1 c1) L1 X) := h1
  have H2 : Hid (NdF T w (.slice a2 L2 c2) L2 Y) := h2
  have HX : Hid (∀ j, j < L1 → (X j).len ≤ 1048576) := hX
  have HY : Hid (∀ j, j < L2 → (Y j).len ≤ 1048576) := hY
  clear h1 h2 hX hY
  by_cases hn : L1 = L2
  · subst hn
    go_enter Try.func15, Try.ntmps15
    go_wp2
    go_loopw [17] (fun i wr => ∃ k : Nat, k ≤ L1 ∧ i = .int .i64 k ∧ (∀ p, p < k → NEq (X p) (Y p)) ∧ Below w.heap.size w wr) (fun i _ => L1 - (intOf i).toNat)
    case atStart => exact ⟨0, Nat.zero_le _, rfl, fun p hp => by omega, Below.refl _ _⟩
    case round =>
      obtain ⟨j, hk, rfl, hp, hF⟩ := hrel
      have HP : Hid (∀ p, p < j → NEq (X p) (Y p)) := hp
      clear hp
      by_cases hlt : j < L1
      · have hlt' : (j : Int) < (L1 : Int) := by omega
        obtain ⟨b, off, rfl, lb, lz, hc⟩ := H1.out.at_ hlt
        obtain ⟨b', off', rfl, lb', lz', hc'⟩ := H2.out.at_ hlt
        obtain ⟨ax, cx, c0, c1, c2, c3, c4, c5, sx⟩ := (hc j hlt).below hF hT lb
        obtain ⟨ay, cy, d0, d1, d2, d3, d4, d5, sy⟩ := (hc' j hlt).below hF hT lb'
        have x1 := HX.out j hlt
        have x2 := HY.out j hlt
        obtain ⟨x, hx⟩ : ∃ x, X j = x := ⟨_, rfl⟩
        obtain ⟨u, hu⟩ : ∃ x, Y j = x := ⟨_, rfl⟩
        rw [hx] at c0 c1 c2 c3 c4 c5 sx x1
        rw [hu] at d0 d1 d2 d3 d4 d5 sy x2
        have EX : Hid (X j = x) := hx
        have EY : Hid (Y j = u) := hu
        obtain ⟨k, s, n, m, t, l, y⟩ := x
        obtain ⟨k', s', n', m', t', l', y'⟩ := u
        simp only at c0 c1 c2 c3 c4 c5 sx x1 d0 d1 d2 d3 d4 d5 sy x2
        have SX : Hid (SlF T wr (.slice ax l cx) l (2 * l) (fun i => .int .i64 (y i))) := sx
        have SY : Hid (SlF T wr (.slice ay l' cy) l' (2 * l') (fun i => .int .i64 (y' i))) := sy
        have HF : Hid (Below w.heap.size w wr) := hF
        have hT2 : T ≤ wr.heap.size := Nat.le_trans hT hF.size
        have lb1 : b < wr.heap.size := by omega
        have lb2 : b' < wr.heap.size := by omega
        have NQ : Hid (NEq (X j) (Y j) ↔ (k = k' ∧ s = s' ∧ n = n' ∧ m = m' ∧ (t.toList == t'.toList) = true ∧ VEq l l' y y')) := by show _ ↔ _; rw [hx, hu]; exact Iff.rfl
        clear hc hc' H1 H2 HX HY hx hu sx sy hF
        have B2 : Below wr.heap.size wr ((wr.alloc (.cells #[.int .i64 k, .int .i64 s, .int .i64 n, .int .i64 m, .string t, .slice ax l cx] 38)).alloc (.cells #[.int .i64 k', .int .i64 s', .int .i64 n', .int .i64 m', .string t', .slice ay l' cy] 38)) := ((Below.refl _ _).alloc (Nat.le_refl _) _).alloc (by simp) _
        by_cases hV : k = k' ∧ s = s' ∧ n = n' ∧ m = m' ∧ (t.toList == t'.toList) = true ∧ VEq l l' y y'
        · have HV : Hid (k = k' ∧ s = s' ∧ n = n' ∧ m = m' ∧ (t.toList == t'.toList) = true ∧ VEq l l' y y') := hV
          clear hV
          go_wp2_with (go_at_call 16; refine (sameNode_yes _ _ _ _ _ _ _ _ _ _ _ _ _ _ _ _ y y' _ _ _ (SX.out.below B2 hT2) (SY.out.below B2 hT2) x1 x2 HV.out).mono ?_; rintro e w1 ⟨rfl, b1⟩; have BB : Hid (Below w.heap.size w w1) := below_next HF.out (B2.trans (b1.mono (by simp; omega))); clear b1)
          go_roundw
          case rel => exact ⟨j + 1, by omega, by go_num, nodes_on HP.out (NQ.out.2 HV.out), BB.out⟩
          case measure => simp [intOf]; omega
        · have HV : Hid (¬ (k = k' ∧ s = s' ∧ n = n' ∧ m = m' ∧ (t.toList == t'.toList) = true ∧ VEq l l' y y')) := hV
          clear hV
          go_wp2_with (go_at_call 16; refine (sameNode_no _ _ _ _ _ _ _ _ _ _ _ _ _ _ _ _ y y' _ _ _ (SX.out.below B2 hT2) (SY.out.below B2 hT2) x1 x2 HV.out).mono ?_; rintro e w1 ⟨rfl, b1⟩; have BB : Hid (Below w.heap.size w w1) := below_next HF.out (B2.trans (b1.mono (by simp; omega))); clear b1)
          go_ret
          exact ⟨false, rfl, ⟨fun h => (by cases h), fun h => absurd (NQ.out.1 (h.2 j hlt)) HV.out⟩, BB.out⟩
      · have hge : (L1 : Int) ≤ (j : Int) := by omega
        go_wp2
        go_ret
        exact ⟨true, rfl, ⟨fun _ => ⟨by trivial, fun i hi => HP.out i (by omega)⟩, fun _ => rfl⟩, hF⟩
  · have hn' : ¬ ((L1 : Int) = L2) := by omega
    go_enter Try.func15, Try.ntmps15
    go_wp2
    go_ret
    exact ⟨false, rfl, ⟨fun h => (by cases h), fun h => absurd h.1 hn⟩, Below.refl _ _⟩
theorem EqualFunc_yes (a1 a2 : Option Addr) (L1 c1 L2 c2 : Nat) (X Y : Nat → NodeD) (T : Nat) (w : World) (h1 : NdF T w (.slice a1 L1 c1) L1 X) (h2 : NdF T w (.slice a2 L2 c2) L2 Y) (hT : T ≤ w.heap.size) (hL1 : L1 ≤ 1048576) (hL2 : L2 ≤ 1048576) (hX : ∀ j, j < L1 → (X j).len ≤ 1048576) (hY : ∀ j, j < L2 → (Y j).len ≤ 1048576) (hV : L1 = L2 ∧ ∀ i, i < L1 → NEq (X i) (Y i)) :
    Calls Try.prog 15 #[.slice a1 L1 c1, .slice a2 L2 c2, .func (.func 16) #[] #[]] w fun e w' => e = .returned (.bool true) ∧ Below w.heap.size w w' :=
  (EqualFunc_any a1 a2 L1 c1 L2 c2 X Y T w h1 h2 hT hL1 hL2 hX hY).mono fun e w' ⟨q, he, hq, hb⟩ => ⟨by rw [he, hq.2 hV], hb⟩
theorem EqualFunc_no (a1 a2 : Option Addr) (L1 c1 L2 c2 : Nat) (X Y : Nat → NodeD) (T : Nat) (w : World) (h1 : NdF T w (.slice a1 L1 c1) L1 X) (h2 : NdF T w (.slice a2 L2 c2) L2 Y) (hT : T ≤ w.heap.size) (hL1 : L1 ≤ 1048576) (hL2 : L2 ≤ 1048576) (hX : ∀ j, j < L1 → (X j).len ≤ 1048576) (hY : ∀ j, j < L2 → (Y j).len ≤ 1048576) (hV : ¬ (L1 = L2 ∧ ∀ i, i < L1 → NEq (X i) (Y i))) :
    Calls Try.prog 15 #[.slice a1 L1 c1, .slice a2 L2 c2, .func (.func 16) #[] #[]] w fun e w' => e = .returned (.bool false) ∧ Below w.heap.size w w' :=
  (EqualFunc_any a1 a2 L1 c1 L2 c2 X Y T w h1 h2 hT hL1 hL2 hX hY).mono fun e w' ⟨q, he, hq, hb⟩ => ⟨by rw [he, Bool.eq_false_iff.2 fun h => hV (hq.1 h)], hb⟩
def SEq (n1 n2 : Nat) (y1 y2 : Nat → Int) (L1 L2 : Nat) (X Y : Nat → NodeD) : Prop := VEq n1 n2 y1 y2 ∧ L1 = L2 ∧ ∀ i, i < L1 → NEq (X i) (Y i)
theorem implShapeSame_any (a1 a2 a1' a2' : Option Addr) (c1 c2 c1' c2' n1 n2 L1 L2 : Nat) (y1 y2 : Nat → Int) (X Y : Nat → NodeD) (T : Nat) (w : World) (h1 : ShF T w (.slice a1 n1 c1) (.slice a2 L1 c2) n1 y1 L1 X) (h2 : ShF T w (.slice a1' n2 c1') (.slice a2' L2 c2') n2 y2 L2 Y) (hT : T ≤ w.heap.size) (l1 : n1 ≤ 1048576) (l2 : n2 ≤ 1048576) (hL1 : L1 ≤ 1048576) (hL2 : L2 ≤ 1048576) (hX : ∀ j, j < L1 → (X j).len ≤ 1048576) (hY : ∀ j, j < L2 → (Y j).len ≤ 1048576) :
    Calls Try.prog 7 #[.agg #[.slice a1 n1 c1, .slice a2 L1 c2], .agg #[.slice a1' n2 c1', .slice a2' L2 c2']] w fun e w' => ∃ q, e = .returned (.bool q) ∧ (q = true ↔ SEq n1 n2 y1 y2 L1 L2 X Y) ∧ Below w.heap.size w w' := by
  have H1 : Hid (ShF T w (.slice a1 n1 c1) (.slice a2 L1 c2) n1 y1 L1 X) := h1
  have H2 : Hid (ShF T w (.slice a1' n2 c1') (.slice a2' L2 c2') n2 y2 L2 Y) := h2
  have HX : Hid (∀ j, j < L1 → (X j).len ≤ 1048576) := hX
  have HY : Hid (∀ j, j < L2 → (Y j).len ≤ 1048576) := hY
  clear h1 h2 hX hY
  have B2 : Below w.heap.size w ((w.alloc (.cells #[.slice a1 n1 c1, .slice a2 L1 c2] 31)).alloc (.cells #[.slice a1' n2 c1', .slice a2' L2 c2'] 31)) := ((Below.refl _ _).alloc (Nat.le_refl _) _).alloc (by simp) _
  by_cases hV : VEq n1 n2 y1 y2
  · by_cases hN : L1 = L2 ∧ ∀ i, i < L1 → NEq (X i) (Y i)
    · have HN : Hid (L1 = L2 ∧ ∀ i, i < L1 → NEq (X i) (Y i)) := hN
      clear hN
      go_enter Try.func7, Try.ntmps7
      go_wp2_with (first | (go_at_call 14; refine (Equal_any_yes _ _ _ _ _ _ y1 y2 _ _ _ (H1.out.1.below B2 hT) (H2.out.1.below B2 hT) l1 l2 hV).mono ?_; rintro e w1 ⟨rfl, b1⟩; have k1 := fun i => (bcell b1).1 (w.heap.size + 1) i (by simp); have k0 := fun i => (bcell b1).1 w.heap.size i (by simp; omega); have z1 : w.heap.size + 1 + 1 ≤ w1.heap.size := (by have := b1.size; simp at this; omega); have BB : Hid (Below w.heap.size w w1) := B2.trans (b1.mono (by simp; omega)); clear b1) | (go_at_call 15; refine (EqualFunc_yes _ _ _ _ _ _ X Y _ _ (H1.out.2.below BB.out hT) (H2.out.2.below BB.out hT) (by omega) hL1 hL2 HX.out HY.out HN.out).mono ?_; rintro e w2 ⟨rfl, b2⟩))
      go_ret
      exact ⟨true, rfl, ⟨fun _ => ⟨hV, HN.out⟩, fun _ => rfl⟩, below_next BB.out b2⟩
    · have HN : Hid (¬ (L1 = L2 ∧ ∀ i, i < L1 → NEq (X i) (Y i))) := hN
      clear hN
      go_enter Try.func7, Try.ntmps7
      go_wp2_with (first | (go_at_call 14; refine (Equal_any_yes _ _ _ _ _ _ y1 y2 _ _ _ (H1.out.1.below B2 hT) (H2.out.1.below B2 hT) l1 l2 hV).mono ?_; rintro e w1 ⟨rfl, b1⟩; have k1 := fun i => (bcell b1).1 (w.heap.size + 1) i (by simp); have k0 := fun i => (bcell b1).1 w.heap.size i (by simp; omega); have z1 : w.heap.size + 1 + 1 ≤ w1.heap.size := (by have := b1.size; simp at this; omega); have BB : Hid (Below w.heap.size w w1) := B2.trans (b1.mono (by simp; omega)); clear b1) | (go_at_call 15; refine (EqualFunc_no _ _ _ _ _ _ X Y _ _ (H1.out.2.below BB.out hT) (H2.out.2.below BB.out hT) (by omega) hL1 hL2 HX.out HY.out HN.out).mono ?_; rintro e w2 ⟨rfl, b2⟩))
      go_ret
      exact ⟨false, rfl, ⟨fun h => (by cases h), fun h => absurd h.2 HN.out⟩, below_next BB.out b2⟩
  · go_enter Try.func7, Try.ntmps7
    go_wp2_with (go_at_call 14; refine (Equal_any_no _ _ _ _ _ _ y1 y2 _ _ _ (H1.out.1.below B2 hT) (H2.out.1.below B2 hT) l1 l2 hV).mono ?_; rintro e w1 ⟨rfl, b1⟩; have k1 := fun i => (bcell b1).1 (w.heap.size + 1) i (by simp); have k0 := fun i => (bcell b1).1 w.heap.size i (by simp; omega); have z1 : w.heap.size + 1 + 1 ≤ w1.heap.size := (by have := b1.size; simp at this; omega); have BB : Hid (Below w.heap.size w w1) := B2.trans (b1.mono (by simp; omega)); clear b1)
    go_ret
    exact ⟨false, rfl, ⟨fun h => (by cases h), fun h => absurd h.1 hV⟩, BB.out⟩
end Go.Proofs.Ytbllmchbcbjfiaa
