/- The program's ModuleSame: rows of pairs, of texts, Protos, modules. -/
import Derived.Test.YtekhgakededicaaProg
import Derived.Test.YtekhgakededicaaMMdE
import Derived.Laws.StructEq
namespace Go.Proofs.Ytekhgakededicaa
set_option maxRecDepth 20000
open Go.RowKit
set_option linter.unusedSimpArgs false
set_option linter.unusedVariables false

/-- Two rows of pairs are alike. -/
def PrEq {α : Type} (n1 n2 : Nat) (p p' : Nat → α) (q q' : Nat → Int) : Prop := n1 = n2 ∧ ∀ i, i < n1 → p i = p' i ∧ q i = q' i
/-- Two Protos are alike. -/
def QEq (x y : PtD) : Prop := x.pa = y.pa ∧ x.sl = y.sl ∧ PrEq x.un y.un x.ub y.ub x.ui y.ui ∧ PrEq x.cn y.cn x.co y.co x.ca y.ca
/-- Two rows of texts are alike. -/
def SEq (n1 n2 : Nat) (s s' : Nat → ByteArray) : Prop := n1 = n2 ∧ ∀ i, i < n1 → ((s i).toList == (s' i).toList) = true
/-- Two modules are alike. -/
def MEq (L1 L2 : Nat) (X Y : Nat → PtD) (n1 n2 : Nat) (s s' : Nat → ByteArray) : Prop := (L1 = L2 ∧ ∀ i, i < L1 → QEq (X i) (Y i)) ∧ SEq n1 n2 s s'
def vB {α : Type} [BEq α] (t : α) (n : Int) (t' : α) (n' : Int) : Bool := t == t' && n == n'
theorem pr_no {α : Type} [BEq α] [LawfulBEq α] {n1 n2 j : Nat} {p p' : Nat → α} {q q' : Nat → Int} (hj : j < n1) (h : vB (p j) (q j) (p' j) (q' j) = false) : ¬ PrEq n1 n2 p p' q q' := by
  rintro ⟨_, h2⟩
  unfold vB at h
  rw [(h2 j hj).1, (h2 j hj).2] at h
  simp at h
theorem pr_on {α : Type} [BEq α] [LawfulBEq α] {j : Nat} {p p' : Nat → α} {q q' : Nat → Int} (hp : ∀ i, i < j → p i = p' i ∧ q i = q' i) (h : vB (p j) (q j) (p' j) (q' j) = true) : ∀ i, i < j + 1 → p i = p' i ∧ q i = q' i := fun i hi => by
  unfold vB at h
  simp only [Bool.and_eq_true, beq_iff_eq] at h
  by_cases e : i = j
  · subst e; exact h
  · exact hp i (by omega)
theorem eqUp_st (p0 : Bool) (q0 : Int) (p1 : Bool) (q1 : Int) (w : World) : (binOp .eql 51 (.agg #[.bool p0, .int .i64 q0]) (.agg #[.bool p1, .int .i64 q1])).run Try.prog w = .ok (.bool (vB p0 q0 p1 q1)) w := by
  have u3 := Try.underlying3
  have a3 := Try.isAgg3
  have z3 := Try.sizeOf3
  have u4 := Try.underlying4
  have a4 := Try.isAgg4
  have z4 := Try.sizeOf4
  have hS : Try.prog.underlying 51 = some (.struct (Try.prog.fieldsOf 51)) := by kernel_rfl
  have hp : Try.prog.stoodInHeld 51 = false := by kernel_rfl
  rw [run_eql_struct, show (10000 : Nat) = 9999 + 1 from rfl, run_equalIn_agg w 9999 51 _ _ hS hp]
  simp only [Program.fieldsOf, Try.underlying51]
  go_simp
  unfold vB
  by_cases h1 : p0 = p1 <;> by_cases h2 : q0 = q1 <;> simp [h1, h2]
theorem neUp (p0 : Bool) (q0 : Int) (p1 : Bool) (q1 : Int) (w : World) : (binOp .neq 51 (.agg #[.bool p0, .int .i64 q0]) (.agg #[.bool p1, .int .i64 q1])).run Try.prog w = .ok (.bool (!vB p0 q0 p1 q1)) w := by
  have h := eqUp_st p0 q0 p1 q1 w
  rw [run_eql_struct] at h
  rw [run_neq_struct]
  generalize (Op.equalIn 10000 51 (.agg #[.bool p0, .int .i64 q0]) (.agg #[.bool p1, .int .i64 q1])).run Try.prog w = r at h
  cases r with
  | ok b w1 =>
    simp only [Result.andThen_ok, Result.ok.injEq, Value.bool.injEq] at h
    obtain ⟨rfl, rfl⟩ := h
    rfl
  | _ => simp [Result.andThen] at h
set_option maxHeartbeats 1000000 in
theorem eqsUp_any (a1 a2 : Option Addr) (n1 c1 n2 c2 : Nat) (p p' : Nat → Bool) (q q' : Nat → Int) (T1 T2 : Nat) (w : World) (h1 : SlF T1 w (.slice a1 n1 c1) n1 (2 * n1) (upF p q)) (h2 : SlF T2 w (.slice a2 n2 c2) n2 (2 * n2) (upF p' q')) (l1 : n1 ≤ 1048576) (l2 : n2 ≤ 1048576) :
    Calls Try.prog 21 #[.slice a1 n1 c1, .slice a2 n2 c2] w fun e w' => ∃ r, e = .returned (.bool r) ∧ (r = true ↔ PrEq n1 n2 p p' q q') ∧ Below w.heap.size w w' := by
  have H1 : Hid (SlF w.heap.size w (.slice a1 n1 c1) n1 (2 * n1) (upF p q)) := h1.here
  have H2 : Hid (SlF w.heap.size w (.slice a2 n2 c2) n2 (2 * n2) (upF p' q')) := h2.here
  have l1' : (n1 : Int) ≤ 1048576 := by omega
  have l2' : (n2 : Int) ≤ 1048576 := by omega
  clear h1 h2
  by_cases hn : n1 = n2
  · subst hn
    have heq := neUp
    go_enter Try.func21, Try.ntmps21
    go_wp2
    go_loopw [13] (fun i wr => ∃ k : Nat, k ≤ n1 ∧ i = .int .i64 k ∧ (∀ i, i < k → p i = p' i ∧ q i = q' i) ∧ Below w.heap.size w wr) (fun i _ => n1 - (intOf i).toNat)
    case atStart => exact ⟨0, Nat.zero_le _, rfl, fun p hp => by omega, Below.refl _ _⟩
    case round =>
      obtain ⟨j, hk, rfl, hp, hF⟩ := hrel
      have HP : Hid (∀ i, i < j → p i = p' i ∧ q i = q' i) := hp
      clear hp
      by_cases hlt : j < n1
      · have hlt' : (j : Int) < (n1 : Int) := by omega
        obtain ⟨br, offr, cap', hv, _, lbr, hcr⟩ := H1.out.parts (k := 0) (by omega)
        simp only [Value.slice.injEq] at hv
        obtain ⟨rfl, _, rfl⟩ := hv
        obtain ⟨bs, offs, cap', hv, _, lbs, hcs⟩ := H2.out.parts (k := 0) (by omega)
        simp only [Value.slice.injEq] at hv
        obtain ⟨rfl, _, rfl⟩ := hv
        have hc1 : wr.cell? ⟨br, offr + j * 2, none⟩ = some (.bool (p j)) := by rw [hF.cell (p := ⟨br, offr + j * 2, none⟩) lbr, ← upF_a p q]; exact hcr (j * 2) (by omega)
        have hd1 : wr.cell? ⟨br, offr + j * 2 + 1, none⟩ = some (.int .i64 (q j)) := by rw [hF.cell (p := ⟨br, offr + j * 2 + 1, none⟩) lbr, ← upF_b p q]; exact hcr (j * 2 + 1) (by omega)
        have hc2 : wr.cell? ⟨bs, offs + j * 2, none⟩ = some (.bool (p' j)) := by rw [hF.cell (p := ⟨bs, offs + j * 2, none⟩) lbs, ← upF_a p' q']; exact hcs (j * 2) (by omega)
        have hd2 : wr.cell? ⟨bs, offs + j * 2 + 1, none⟩ = some (.int .i64 (q' j)) := by rw [hF.cell (p := ⟨bs, offs + j * 2 + 1, none⟩) lbs, ← upF_b p' q']; exact hcs (j * 2 + 1) (by omega)
        clear hcr hcs H1 H2
        cases hq : vB (p j) (q j) (p' j) (q' j) with
        | true =>
          have HV : Hid (∀ i, i < j + 1 → p i = p' i ∧ q i = q' i) := pr_on HP.out hq
          go_wp2
          go_quiet (fail)
          go_wp2
          go_roundw
          case rel => exact ⟨j + 1, by omega, by go_num, HV.out, below_drewN hF _⟩
          case measure => simp [intOf]; omega
        | false =>
          have HN : Hid (¬ PrEq n1 n1 p p' q q') := pr_no hlt hq
          go_wp2
          go_quiet (fail)
          go_wp2
          go_ret
          exact ⟨false, rfl, ⟨fun h => (by cases h), fun h => absurd h HN.out⟩, below_drewN hF _⟩
      · have hge : (n1 : Int) ≤ (j : Int) := by omega
        clear heq
        go_wp2
        go_ret
        exact ⟨true, rfl, ⟨fun _ => ⟨rfl, fun i hi => HP.out i (by omega)⟩, fun _ => rfl⟩, hF⟩
  · have hn' : ¬ ((n1 : Int) = n2) := by omega
    go_enter Try.func21, Try.ntmps21
    go_wp2
    go_ret
    exact ⟨false, rfl, ⟨fun h => (by cases h), fun h => absurd h.1 hn⟩, Below.refl _ _⟩
theorem eqsUp_yes (a1 a2 : Option Addr) (n1 c1 n2 c2 : Nat) (p p' : Nat → Bool) (q q' : Nat → Int) (T1 T2 : Nat) (w : World) (h1 : SlF T1 w (.slice a1 n1 c1) n1 (2 * n1) (upF p q)) (h2 : SlF T2 w (.slice a2 n2 c2) n2 (2 * n2) (upF p' q')) (l1 : n1 ≤ 1048576) (l2 : n2 ≤ 1048576) (hV : PrEq n1 n2 p p' q q') :
    Calls Try.prog 21 #[.slice a1 n1 c1, .slice a2 n2 c2] w fun e w' => e = .returned (.bool true) ∧ Below w.heap.size w w' :=
  (eqsUp_any a1 a2 n1 c1 n2 c2 p p' q q' T1 T2 w h1 h2 l1 l2).mono fun e w' ⟨r, he, hq, hb⟩ => ⟨by rw [he, hq.2 hV], hb⟩
theorem eqsUp_no (a1 a2 : Option Addr) (n1 c1 n2 c2 : Nat) (p p' : Nat → Bool) (q q' : Nat → Int) (T1 T2 : Nat) (w : World) (h1 : SlF T1 w (.slice a1 n1 c1) n1 (2 * n1) (upF p q)) (h2 : SlF T2 w (.slice a2 n2 c2) n2 (2 * n2) (upF p' q')) (l1 : n1 ≤ 1048576) (l2 : n2 ≤ 1048576) (hV : ¬ PrEq n1 n2 p p' q q') :
    Calls Try.prog 21 #[.slice a1 n1 c1, .slice a2 n2 c2] w fun e w' => e = .returned (.bool false) ∧ Below w.heap.size w w' :=
  (eqsUp_any a1 a2 n1 c1 n2 c2 p p' q q' T1 T2 w h1 h2 l1 l2).mono fun e w' ⟨r, he, hq, hb⟩ => ⟨by rw [he, Bool.eq_false_iff.2 fun h => hV (hq.1 h)], hb⟩
theorem eqIns_st (p0 : Int) (q0 : Int) (p1 : Int) (q1 : Int) (w : World) : (binOp .eql 53 (.agg #[.int .i64 p0, .int .i64 q0]) (.agg #[.int .i64 p1, .int .i64 q1])).run Try.prog w = .ok (.bool (vB p0 q0 p1 q1)) w := by
  have u3 := Try.underlying3
  have a3 := Try.isAgg3
  have z3 := Try.sizeOf3
  have u4 := Try.underlying4
  have a4 := Try.isAgg4
  have z4 := Try.sizeOf4
  have hS : Try.prog.underlying 53 = some (.struct (Try.prog.fieldsOf 53)) := by kernel_rfl
  have hp : Try.prog.stoodInHeld 53 = false := by kernel_rfl
  rw [run_eql_struct, show (10000 : Nat) = 9999 + 1 from rfl, run_equalIn_agg w 9999 53 _ _ hS hp]
  simp only [Program.fieldsOf, Try.underlying53]
  go_simp
  unfold vB
  by_cases h1 : p0 = p1 <;> by_cases h2 : q0 = q1 <;> simp [h1, h2]
theorem neIns (p0 : Int) (q0 : Int) (p1 : Int) (q1 : Int) (w : World) : (binOp .neq 53 (.agg #[.int .i64 p0, .int .i64 q0]) (.agg #[.int .i64 p1, .int .i64 q1])).run Try.prog w = .ok (.bool (!vB p0 q0 p1 q1)) w := by
  have h := eqIns_st p0 q0 p1 q1 w
  rw [run_eql_struct] at h
  rw [run_neq_struct]
  generalize (Op.equalIn 10000 53 (.agg #[.int .i64 p0, .int .i64 q0]) (.agg #[.int .i64 p1, .int .i64 q1])).run Try.prog w = r at h
  cases r with
  | ok b w1 =>
    simp only [Result.andThen_ok, Result.ok.injEq, Value.bool.injEq] at h
    obtain ⟨rfl, rfl⟩ := h
    rfl
  | _ => simp [Result.andThen] at h
set_option maxHeartbeats 1000000 in
theorem eqsIns_any (a1 a2 : Option Addr) (n1 c1 n2 c2 : Nat) (p p' : Nat → Int) (q q' : Nat → Int) (T1 T2 : Nat) (w : World) (h1 : SlF T1 w (.slice a1 n1 c1) n1 (2 * n1) (inF p q)) (h2 : SlF T2 w (.slice a2 n2 c2) n2 (2 * n2) (inF p' q')) (l1 : n1 ≤ 1048576) (l2 : n2 ≤ 1048576) :
    Calls Try.prog 22 #[.slice a1 n1 c1, .slice a2 n2 c2] w fun e w' => ∃ r, e = .returned (.bool r) ∧ (r = true ↔ PrEq n1 n2 p p' q q') ∧ Below w.heap.size w w' := by
  have H1 : Hid (SlF w.heap.size w (.slice a1 n1 c1) n1 (2 * n1) (inF p q)) := h1.here
  have H2 : Hid (SlF w.heap.size w (.slice a2 n2 c2) n2 (2 * n2) (inF p' q')) := h2.here
  have l1' : (n1 : Int) ≤ 1048576 := by omega
  have l2' : (n2 : Int) ≤ 1048576 := by omega
  clear h1 h2
  by_cases hn : n1 = n2
  · subst hn
    have heq := neIns
    go_enter Try.func22, Try.ntmps22
    go_wp2
    go_loopw [13] (fun i wr => ∃ k : Nat, k ≤ n1 ∧ i = .int .i64 k ∧ (∀ i, i < k → p i = p' i ∧ q i = q' i) ∧ Below w.heap.size w wr) (fun i _ => n1 - (intOf i).toNat)
    case atStart => exact ⟨0, Nat.zero_le _, rfl, fun p hp => by omega, Below.refl _ _⟩
    case round =>
      obtain ⟨j, hk, rfl, hp, hF⟩ := hrel
      have HP : Hid (∀ i, i < j → p i = p' i ∧ q i = q' i) := hp
      clear hp
      by_cases hlt : j < n1
      · have hlt' : (j : Int) < (n1 : Int) := by omega
        obtain ⟨br, offr, cap', hv, _, lbr, hcr⟩ := H1.out.parts (k := 0) (by omega)
        simp only [Value.slice.injEq] at hv
        obtain ⟨rfl, _, rfl⟩ := hv
        obtain ⟨bs, offs, cap', hv, _, lbs, hcs⟩ := H2.out.parts (k := 0) (by omega)
        simp only [Value.slice.injEq] at hv
        obtain ⟨rfl, _, rfl⟩ := hv
        have hc1 : wr.cell? ⟨br, offr + j * 2, none⟩ = some (.int .i64 (p j)) := by rw [hF.cell (p := ⟨br, offr + j * 2, none⟩) lbr, ← inF_a p q]; exact hcr (j * 2) (by omega)
        have hd1 : wr.cell? ⟨br, offr + j * 2 + 1, none⟩ = some (.int .i64 (q j)) := by rw [hF.cell (p := ⟨br, offr + j * 2 + 1, none⟩) lbr, ← inF_b p q]; exact hcr (j * 2 + 1) (by omega)
        have hc2 : wr.cell? ⟨bs, offs + j * 2, none⟩ = some (.int .i64 (p' j)) := by rw [hF.cell (p := ⟨bs, offs + j * 2, none⟩) lbs, ← inF_a p' q']; exact hcs (j * 2) (by omega)
        have hd2 : wr.cell? ⟨bs, offs + j * 2 + 1, none⟩ = some (.int .i64 (q' j)) := by rw [hF.cell (p := ⟨bs, offs + j * 2 + 1, none⟩) lbs, ← inF_b p' q']; exact hcs (j * 2 + 1) (by omega)
        clear hcr hcs H1 H2
        cases hq : vB (p j) (q j) (p' j) (q' j) with
        | true =>
          have HV : Hid (∀ i, i < j + 1 → p i = p' i ∧ q i = q' i) := pr_on HP.out hq
          go_wp2
          go_quiet (fail)
          go_wp2
          go_roundw
          case rel => exact ⟨j + 1, by omega, by go_num, HV.out, below_drewN hF _⟩
          case measure => simp [intOf]; omega
        | false =>
          have HN : Hid (¬ PrEq n1 n1 p p' q q') := pr_no hlt hq
          go_wp2
          go_quiet (fail)
          go_wp2
          go_ret
          exact ⟨false, rfl, ⟨fun h => (by cases h), fun h => absurd h HN.out⟩, below_drewN hF _⟩
      · have hge : (n1 : Int) ≤ (j : Int) := by omega
        clear heq
        go_wp2
        go_ret
        exact ⟨true, rfl, ⟨fun _ => ⟨rfl, fun i hi => HP.out i (by omega)⟩, fun _ => rfl⟩, hF⟩
  · have hn' : ¬ ((n1 : Int) = n2) := by omega
    go_enter Try.func22, Try.ntmps22
    go_wp2
    go_ret
    exact ⟨false, rfl, ⟨fun h => (by cases h), fun h => absurd h.1 hn⟩, Below.refl _ _⟩
theorem eqsIns_yes (a1 a2 : Option Addr) (n1 c1 n2 c2 : Nat) (p p' : Nat → Int) (q q' : Nat → Int) (T1 T2 : Nat) (w : World) (h1 : SlF T1 w (.slice a1 n1 c1) n1 (2 * n1) (inF p q)) (h2 : SlF T2 w (.slice a2 n2 c2) n2 (2 * n2) (inF p' q')) (l1 : n1 ≤ 1048576) (l2 : n2 ≤ 1048576) (hV : PrEq n1 n2 p p' q q') :
    Calls Try.prog 22 #[.slice a1 n1 c1, .slice a2 n2 c2] w fun e w' => e = .returned (.bool true) ∧ Below w.heap.size w w' :=
  (eqsIns_any a1 a2 n1 c1 n2 c2 p p' q q' T1 T2 w h1 h2 l1 l2).mono fun e w' ⟨r, he, hq, hb⟩ => ⟨by rw [he, hq.2 hV], hb⟩
theorem eqsIns_no (a1 a2 : Option Addr) (n1 c1 n2 c2 : Nat) (p p' : Nat → Int) (q q' : Nat → Int) (T1 T2 : Nat) (w : World) (h1 : SlF T1 w (.slice a1 n1 c1) n1 (2 * n1) (inF p q)) (h2 : SlF T2 w (.slice a2 n2 c2) n2 (2 * n2) (inF p' q')) (l1 : n1 ≤ 1048576) (l2 : n2 ≤ 1048576) (hV : ¬ PrEq n1 n2 p p' q q') :
    Calls Try.prog 22 #[.slice a1 n1 c1, .slice a2 n2 c2] w fun e w' => e = .returned (.bool false) ∧ Below w.heap.size w w' :=
  (eqsIns_any a1 a2 n1 c1 n2 c2 p p' q q' T1 T2 w h1 h2 l1 l2).mono fun e w' ⟨r, he, hq, hb⟩ => ⟨by rw [he, Bool.eq_false_iff.2 fun h => hV (hq.1 h)], hb⟩
theorem tx_no {n1 n2 j : Nat} {s s' : Nat → ByteArray} (hj : j < n1) (h : ((s j).toList == (s' j).toList) = false) : ¬ SEq n1 n2 s s' := fun h2 => by rw [h2.2 j hj] at h; cases h
theorem tx_on {j : Nat} {s s' : Nat → ByteArray} (hp : ∀ i, i < j → ((s i).toList == (s' i).toList) = true) (h : ((s j).toList == (s' j).toList) = true) : ∀ i, i < j + 1 → ((s i).toList == (s' i).toList) = true := fun i hi => if e : i = j then e ▸ h else hp i (by omega)
set_option maxHeartbeats 1000000 in
theorem eqsTx_any (a1 a2 : Option Addr) (n1 c1 n2 c2 : Nat) (s s' : Nat → ByteArray) (T1 T2 : Nat) (w : World) (h1 : SlF T1 w (.slice a1 n1 c1) n1 n1 (fun i => .string (s i))) (h2 : SlF T2 w (.slice a2 n2 c2) n2 n2 (fun i => .string (s' i))) (l1 : n1 ≤ 1048576) (l2 : n2 ≤ 1048576) :
    Calls Try.prog 16 #[.slice a1 n1 c1, .slice a2 n2 c2] w fun e w' => ∃ r, e = .returned (.bool r) ∧ (r = true ↔ SEq n1 n2 s s') ∧ Below w.heap.size w w' := by
  have H1 : Hid (SlF w.heap.size w (.slice a1 n1 c1) n1 n1 (fun i => .string (s i))) := h1.here
  have H2 : Hid (SlF w.heap.size w (.slice a2 n2 c2) n2 n2 (fun i => .string (s' i))) := h2.here
  have l1' : (n1 : Int) ≤ 1048576 := by omega
  have l2' : (n2 : Int) ≤ 1048576 := by omega
  clear h1 h2
  by_cases hn : n1 = n2
  · subst hn
    go_enter Try.func16, Try.ntmps16
    go_wp2
    go_loopw [13] (fun i wr => ∃ k : Nat, k ≤ n1 ∧ i = .int .i64 k ∧ (∀ i, i < k → ((s i).toList == (s' i).toList) = true) ∧ Below w.heap.size w wr) (fun i _ => n1 - (intOf i).toNat)
    case atStart => exact ⟨0, Nat.zero_le _, rfl, fun p hp => by omega, Below.refl _ _⟩
    case round =>
      obtain ⟨j, hk, rfl, hp, hF⟩ := hrel
      have HP : Hid (∀ i, i < j → ((s i).toList == (s' i).toList) = true) := hp
      clear hp
      by_cases hlt : j < n1
      · have hlt' : (j : Int) < (n1 : Int) := by omega
        obtain ⟨br, offr, cap', hv, _, lbr, hcr⟩ := H1.out.parts (k := 0) (by omega)
        simp only [Value.slice.injEq] at hv
        obtain ⟨rfl, _, rfl⟩ := hv
        obtain ⟨bs, offs, cap', hv, _, lbs, hcs⟩ := H2.out.parts (k := 0) (by omega)
        simp only [Value.slice.injEq] at hv
        obtain ⟨rfl, _, rfl⟩ := hv
        have hc1 : wr.cell? ⟨br, offr + j, none⟩ = some (.string (s j)) := by rw [hF.cell (p := ⟨br, offr + j, none⟩) lbr]; exact hcr j hlt
        have hc2 : wr.cell? ⟨bs, offs + j, none⟩ = some (.string (s' j)) := by rw [hF.cell (p := ⟨bs, offs + j, none⟩) lbs]; exact hcs j hlt
        clear hcr hcs H1 H2
        cases hq : ((s j).toList == (s' j).toList) with
        | true =>
          have HV : Hid (∀ i, i < j + 1 → ((s i).toList == (s' i).toList) = true) := tx_on HP.out hq
          generalize s j = tx at hc1 hq
          generalize s' j = ty at hc2 hq
          go_wp2
          go_quiet (fail)
          go_wp2
          go_roundw
          case rel => exact ⟨j + 1, by omega, by go_num, HV.out, below_drewN hF _⟩
          case measure => simp [intOf]; omega
        | false =>
          have HN : Hid (¬ SEq n1 n1 s s') := tx_no hlt hq
          generalize s j = tx at hc1 hq
          generalize s' j = ty at hc2 hq
          go_wp2
          go_quiet (fail)
          go_wp2
          go_ret
          exact ⟨false, rfl, ⟨fun h => (by cases h), fun h => absurd h HN.out⟩, below_drewN hF _⟩
      · have hge : (n1 : Int) ≤ (j : Int) := by omega
        go_wp2
        go_ret
        exact ⟨true, rfl, ⟨fun _ => ⟨rfl, fun i hi => HP.out i (by omega)⟩, fun _ => rfl⟩, hF⟩
  · have hn' : ¬ ((n1 : Int) = n2) := by omega
    go_enter Try.func16, Try.ntmps16
    go_wp2
    go_ret
    exact ⟨false, rfl, ⟨fun h => (by cases h), fun h => absurd h.1 hn⟩, Below.refl _ _⟩
set_option maxHeartbeats 1000000 in
theorem protoSame_any (pa sl : Int) (au : Option Addr) (un cu : Nat) (ac : Option Addr) (cn cc : Nat) (pa' sl' : Int) (au' : Option Addr) (un' cu' : Nat) (ac' : Option Addr) (cn' cc' : Nat) (ub ub' : Nat → Bool) (ui ui' co co' ca ca' : Nat → Int) (T : Nat) (w : World) (h1 : SlF T w (.slice au un cu) un (2 * un) (upF ub ui)) (h2 : SlF T w (.slice ac cn cc) cn (2 * cn) (inF co ca)) (h3 : SlF T w (.slice au' un' cu') un' (2 * un') (upF ub' ui')) (h4 : SlF T w (.slice ac' cn' cc') cn' (2 * cn') (inF co' ca')) (hT : T ≤ w.heap.size) (l1 : un ≤ 1048576) (l2 : cn ≤ 1048576) (l3 : un' ≤ 1048576) (l4 : cn' ≤ 1048576) :
    Calls Try.prog 15 #[.agg #[.int .i64 pa, .int .i64 sl, .slice au un cu, .slice ac cn cc], .agg #[.int .i64 pa', .int .i64 sl', .slice au' un' cu', .slice ac' cn' cc']] w fun e w' => ∃ r, e = .returned (.bool r) ∧ (r = true ↔ (pa = pa' ∧ sl = sl' ∧ PrEq un un' ub ub' ui ui' ∧ PrEq cn cn' co co' ca ca')) ∧ Below w.heap.size w w' := by
  have H1 : Hid (SlF T w (.slice au un cu) un (2 * un) (upF ub ui)) := h1
  have H2 : Hid (SlF T w (.slice ac cn cc) cn (2 * cn) (inF co ca)) := h2
  have H3 : Hid (SlF T w (.slice au' un' cu') un' (2 * un') (upF ub' ui')) := h3
  have H4 : Hid (SlF T w (.slice ac' cn' cc') cn' (2 * cn') (inF co' ca')) := h4
  clear h1 h2 h3 h4
  by_cases g1 : pa = pa'
  rotate_left
  · go_enter Try.func15, Try.ntmps15
    go_wp2
    go_ret
    exact ⟨false, rfl, ⟨fun h => (by cases h), fun h => absurd h.1 g1⟩, ((Below.refl _ _).alloc (Nat.le_refl _) _).alloc (by simp) _⟩
  subst g1
  by_cases g2 : sl = sl'
  rotate_left
  · go_enter Try.func15, Try.ntmps15
    go_wp2
    go_ret
    exact ⟨false, rfl, ⟨fun h => (by cases h), fun h => absurd h.2.1 g2⟩, ((Below.refl _ _).alloc (Nat.le_refl _) _).alloc (by simp) _⟩
  subst g2
  have B2 : Below w.heap.size w ((w.alloc (.cells #[.int .i64 pa, .int .i64 sl, .slice au un cu, .slice ac cn cc] 39)).alloc (.cells #[.int .i64 pa, .int .i64 sl, .slice au' un' cu', .slice ac' cn' cc'] 39)) := ((Below.refl _ _).alloc (Nat.le_refl _) _).alloc (by simp) _
  by_cases hU : PrEq un un' ub ub' ui ui'
  · by_cases hC : PrEq cn cn' co co' ca ca'
    · go_enter Try.func15, Try.ntmps15
      go_wp2_with (first | (go_at_call 21; refine (eqsUp_yes _ _ _ _ _ _ ub ub' ui ui' _ _ _ (H1.out.below B2 hT) (H3.out.below B2 hT) l1 l3 hU).mono ?_; rintro e w1 ⟨rfl, b1⟩; have k1 := fun i => (bcell b1).1 (w.heap.size + 1) i (by simp); have k0 := fun i => (bcell b1).1 w.heap.size i (by simp; omega); have z1 : w.heap.size + 1 + 1 ≤ w1.heap.size := (by have := b1.size; simp at this; omega); have BB : Hid (Below w.heap.size w w1) := B2.trans (b1.mono (by simp; omega)); clear b1) | (go_at_call 22; refine (eqsIns_yes _ _ _ _ _ _ co co' ca ca' _ _ _ (H2.out.below BB.out hT) (H4.out.below BB.out hT) l2 l4 hC).mono ?_; rintro e w2 ⟨rfl, b2⟩; have BC : Hid (Below w.heap.size w w2) := below_next BB.out b2; clear b2))
      go_ret
      exact ⟨true, rfl, by simp [hU, hC], BC.out⟩
    · go_enter Try.func15, Try.ntmps15
      go_wp2_with (first | (go_at_call 21; refine (eqsUp_yes _ _ _ _ _ _ ub ub' ui ui' _ _ _ (H1.out.below B2 hT) (H3.out.below B2 hT) l1 l3 hU).mono ?_; rintro e w1 ⟨rfl, b1⟩; have k1 := fun i => (bcell b1).1 (w.heap.size + 1) i (by simp); have k0 := fun i => (bcell b1).1 w.heap.size i (by simp; omega); have z1 : w.heap.size + 1 + 1 ≤ w1.heap.size := (by have := b1.size; simp at this; omega); have BB : Hid (Below w.heap.size w w1) := B2.trans (b1.mono (by simp; omega)); clear b1) | (go_at_call 22; refine (eqsIns_no _ _ _ _ _ _ co co' ca ca' _ _ _ (H2.out.below BB.out hT) (H4.out.below BB.out hT) l2 l4 hC).mono ?_; rintro e w2 ⟨rfl, b2⟩; have BC : Hid (Below w.heap.size w w2) := below_next BB.out b2; clear b2))
      go_ret
      exact ⟨false, rfl, ⟨fun h => (by cases h), fun h => absurd h.2.2.2 hC⟩, BC.out⟩
  · go_enter Try.func15, Try.ntmps15
    go_wp2_with (go_at_call 21; refine (eqsUp_no _ _ _ _ _ _ ub ub' ui ui' _ _ _ (H1.out.below B2 hT) (H3.out.below B2 hT) l1 l3 hU).mono ?_; rintro e w1 ⟨rfl, b1⟩; have k1 := fun i => (bcell b1).1 (w.heap.size + 1) i (by simp); have k0 := fun i => (bcell b1).1 w.heap.size i (by simp; omega); have z1 : w.heap.size + 1 + 1 ≤ w1.heap.size := (by have := b1.size; simp at this; omega); have BB : Hid (Below w.heap.size w w1) := B2.trans (b1.mono (by simp; omega)); clear b1)
    go_ret
    exact ⟨false, rfl, ⟨fun h => (by cases h), fun h => absurd h.2.2.1 hU⟩, BB.out⟩
theorem protoSame_yes (pa sl : Int) (au : Option Addr) (un cu : Nat) (ac : Option Addr) (cn cc : Nat) (pa' sl' : Int) (au' : Option Addr) (un' cu' : Nat) (ac' : Option Addr) (cn' cc' : Nat) (ub ub' : Nat → Bool) (ui ui' co co' ca ca' : Nat → Int) (T : Nat) (w : World) (h1 : SlF T w (.slice au un cu) un (2 * un) (upF ub ui)) (h2 : SlF T w (.slice ac cn cc) cn (2 * cn) (inF co ca)) (h3 : SlF T w (.slice au' un' cu') un' (2 * un') (upF ub' ui')) (h4 : SlF T w (.slice ac' cn' cc') cn' (2 * cn') (inF co' ca')) (hT : T ≤ w.heap.size) (l1 : un ≤ 1048576) (l2 : cn ≤ 1048576) (l3 : un' ≤ 1048576) (l4 : cn' ≤ 1048576) (hV : pa = pa' ∧ sl = sl' ∧ PrEq un un' ub ub' ui ui' ∧ PrEq cn cn' co co' ca ca') :
    Calls Try.prog 15 #[.agg #[.int .i64 pa, .int .i64 sl, .slice au un cu, .slice ac cn cc], .agg #[.int .i64 pa', .int .i64 sl', .slice au' un' cu', .slice ac' cn' cc']] w fun e w' => e = .returned (.bool true) ∧ Below w.heap.size w w' :=
  (protoSame_any pa sl au un cu ac cn cc pa' sl' au' un' cu' ac' cn' cc' ub ub' ui ui' co co' ca ca' T w h1 h2 h3 h4 hT l1 l2 l3 l4).mono fun e w' ⟨r, he, hq, hb⟩ => ⟨by rw [he, hq.2 hV], hb⟩
theorem protoSame_no (pa sl : Int) (au : Option Addr) (un cu : Nat) (ac : Option Addr) (cn cc : Nat) (pa' sl' : Int) (au' : Option Addr) (un' cu' : Nat) (ac' : Option Addr) (cn' cc' : Nat) (ub ub' : Nat → Bool) (ui ui' co co' ca ca' : Nat → Int) (T : Nat) (w : World) (h1 : SlF T w (.slice au un cu) un (2 * un) (upF ub ui)) (h2 : SlF T w (.slice ac cn cc) cn (2 * cn) (inF co ca)) (h3 : SlF T w (.slice au' un' cu') un' (2 * un') (upF ub' ui')) (h4 : SlF T w (.slice ac' cn' cc') cn' (2 * cn') (inF co' ca')) (hT : T ≤ w.heap.size) (l1 : un ≤ 1048576) (l2 : cn ≤ 1048576) (l3 : un' ≤ 1048576) (l4 : cn' ≤ 1048576) (hV : ¬ (pa = pa' ∧ sl = sl' ∧ PrEq un un' ub ub' ui ui' ∧ PrEq cn cn' co co' ca ca')) :
    Calls Try.prog 15 #[.agg #[.int .i64 pa, .int .i64 sl, .slice au un cu, .slice ac cn cc], .agg #[.int .i64 pa', .int .i64 sl', .slice au' un' cu', .slice ac' cn' cc']] w fun e w' => e = .returned (.bool false) ∧ Below w.heap.size w w' :=
  (protoSame_any pa sl au un cu ac cn cc pa' sl' au' un' cu' ac' cn' cc' ub ub' ui ui' co co' ca ca' T w h1 h2 h3 h4 hT l1 l2 l3 l4).mono fun e w' ⟨r, he, hq, hb⟩ => ⟨by rw [he, Bool.eq_false_iff.2 fun h => hV (hq.1 h)], hb⟩
theorem protos_on {X Y : Nat → PtD} {j : Nat} (hp : ∀ i, i < j → QEq (X i) (Y i)) (h : QEq (X j) (Y j)) : ∀ i, i < j + 1 → QEq (X i) (Y i) := fun i hi => if e : i = j then e ▸ h else hp i (by omega)
set_option maxHeartbeats 1000000 in
theorem eqProtos_any (a1 a2 : Option Addr) (L1 c1 L2 c2 : Nat) (X Y : Nat → PtD) (T : Nat) (w : World) (h1 : PtF T w (.slice a1 L1 c1) L1 X) (h2 : PtF T w (.slice a2 L2 c2) L2 Y) (hT : T ≤ w.heap.size) (hL1 : L1 ≤ 1048576) (hL2 : L2 ≤ 1048576) (hX : ∀ j, j < L1 → PLe (X j) 1048576) (hY : ∀ j, j < L2 → PLe (Y j) 1048576) :
    Calls Try.prog 14 #[.slice a1 L1 c1, .slice a2 L2 c2, .func (.func 15) #[] #[]] w fun e w' => ∃ r, e = .returned (.bool r) ∧ (r = true ↔ (L1 = L2 ∧ ∀ i, i < L1 → QEq (X i) (Y i))) ∧ Below w.heap.size w w' := by
  have l1' : (L1 : Int) ≤ 1048576 := by omega
  have l2' : (L2 : Int) ≤ 1048576 := by omega
  have H1 : Hid (PtF T w (.slice a1 L1 c1) L1 X) := h1
  have H2 : Hid (PtF T w (.slice a2 L2 c2) L2 Y) := h2
  have HX : Hid (∀ j, j < L1 → PLe (X j) 1048576) := hX
  have HY : Hid (∀ j, j < L2 → PLe (Y j) 1048576) := hY
  clear h1 h2 hX hY
  by_cases hn : L1 = L2
  · subst hn
    go_enter Try.func14, Try.ntmps14
    go_wp2
    go_loopw [17] (fun i wr => ∃ k : Nat, k ≤ L1 ∧ i = .int .i64 k ∧ (∀ p, p < k → QEq (X p) (Y p)) ∧ Below w.heap.size w wr) (fun i _ => L1 - (intOf i).toNat)
    case atStart => exact ⟨0, Nat.zero_le _, rfl, fun p hp => by omega, Below.refl _ _⟩
    case round =>
      obtain ⟨j, hk, rfl, hp, hF⟩ := hrel
      have HP : Hid (∀ p, p < j → QEq (X p) (Y p)) := hp
      clear hp
      by_cases hlt : j < L1
      · have hlt' : (j : Int) < (L1 : Int) := by omega
        obtain ⟨b, off, rfl, lb, lz, hc⟩ := H1.out.at_ hlt
        obtain ⟨b', off', rfl, lb', lz', hc'⟩ := H2.out.at_ hlt
        obtain ⟨ax, cx, ax', cx', c0, c1, c2, c3, sx, sx'⟩ := (hc j hlt).below hF hT lb
        obtain ⟨ay, cy, ay', cy', d0, d1, d2, d3, sy, sy'⟩ := (hc' j hlt).below hF hT lb'
        obtain ⟨x1, x2⟩ := HX.out j hlt
        obtain ⟨y1, y2⟩ := HY.out j hlt
        obtain ⟨x, hx⟩ : ∃ x, X j = x := ⟨_, rfl⟩
        obtain ⟨u, hu⟩ : ∃ x, Y j = x := ⟨_, rfl⟩
        rw [hx] at c0 c1 c2 c3 sx sx' x1 x2
        rw [hu] at d0 d1 d2 d3 sy sy' y1 y2
        obtain ⟨pa, sl, un, ub, ui, cn, co, ca⟩ := x
        obtain ⟨pa', sl', un', ub', ui', cn', co', ca'⟩ := u
        simp only at c0 c1 c2 c3 sx sx' x1 x2 d0 d1 d2 d3 sy sy' y1 y2
        have hT2 : T ≤ wr.heap.size := Nat.le_trans hT hF.size
        have lb1 : b < wr.heap.size := by omega
        have lb2 : b' < wr.heap.size := by omega
        have NQ : Hid (QEq (X j) (Y j) ↔ (pa = pa' ∧ sl = sl' ∧ PrEq un un' ub ub' ui ui' ∧ PrEq cn cn' co co' ca ca')) := by show _ ↔ _; rw [hx, hu]; exact Iff.rfl
        have HF : Hid (Below w.heap.size w wr) := hF
        have B2 : Below wr.heap.size wr ((wr.alloc (.cells #[.int .i64 pa, .int .i64 sl, .slice ax un cx, .slice ax' cn cx'] 39)).alloc (.cells #[.int .i64 pa', .int .i64 sl', .slice ay un' cy, .slice ay' cn' cy'] 39)) := ((Below.refl _ _).alloc (Nat.le_refl _) _).alloc (by simp) _
        by_cases hV : pa = pa' ∧ sl = sl' ∧ PrEq un un' ub ub' ui ui' ∧ PrEq cn cn' co co' ca ca'
        · have HV : Hid (pa = pa' ∧ sl = sl' ∧ PrEq un un' ub ub' ui ui' ∧ PrEq cn cn' co co' ca ca') := hV
          have HC : Hid (Calls _ _ _ _ _) := protoSame_yes pa sl ax un cx ax' cn cx' pa' sl' ay un' cy ay' cn' cy' ub ub' ui ui' co co' ca ca' T _ (sx.below B2 hT2) (sx'.below B2 hT2) (sy.below B2 hT2) (sy'.below B2 hT2) (by simp; omega) x1 x2 y1 y2 hV
          clear hV hc hc' H1 H2 HX HY hx hu sx sy sx' sy' hF
          go_wp2_with (go_at_call 15; refine HC.out.mono ?_; rintro e w1 ⟨rfl, b1⟩; have BB : Hid (Below w.heap.size w w1) := below_next HF.out (B2.trans (b1.mono (by simp; omega))); clear b1)
          go_roundw
          case rel => exact ⟨j + 1, by omega, by go_num, protos_on HP.out (NQ.out.2 HV.out), BB.out⟩
          case measure => simp [intOf]; omega
        · have HV : Hid (¬ (pa = pa' ∧ sl = sl' ∧ PrEq un un' ub ub' ui ui' ∧ PrEq cn cn' co co' ca ca')) := hV
          have HC : Hid (Calls _ _ _ _ _) := protoSame_no pa sl ax un cx ax' cn cx' pa' sl' ay un' cy ay' cn' cy' ub ub' ui ui' co co' ca ca' T _ (sx.below B2 hT2) (sx'.below B2 hT2) (sy.below B2 hT2) (sy'.below B2 hT2) (by simp; omega) x1 x2 y1 y2 hV
          clear hV hc hc' H1 H2 HX HY hx hu sx sy sx' sy' hF
          go_wp2_with (go_at_call 15; refine HC.out.mono ?_; rintro e w1 ⟨rfl, b1⟩; have BB : Hid (Below w.heap.size w w1) := below_next HF.out (B2.trans (b1.mono (by simp; omega))); clear b1)
          go_ret
          exact ⟨false, rfl, ⟨fun h => (by cases h), fun h => absurd (NQ.out.1 (h.2 j hlt)) HV.out⟩, BB.out⟩
      · have hge : (L1 : Int) ≤ (j : Int) := by omega
        go_wp2
        go_ret
        exact ⟨true, rfl, ⟨fun _ => ⟨by trivial, fun i hi => HP.out i (by omega)⟩, fun _ => rfl⟩, hF⟩
  · have hn' : ¬ ((L1 : Int) = L2) := by omega
    go_enter Try.func14, Try.ntmps14
    go_wp2
    go_ret
    exact ⟨false, rfl, ⟨fun h => (by cases h), fun h => absurd h.1 hn⟩, Below.refl _ _⟩
theorem implModuleSame_any (a1 a2 a1' a2' : Option Addr) (c1 c2 c1' c2' L1 L2 n1 n2 : Nat) (X Y : Nat → PtD) (s s' : Nat → ByteArray) (T : Nat) (w : World) (h1 : MdF T w (.slice a1 L1 c1) (.slice a2 n1 c2) L1 X n1 s) (h2 : MdF T w (.slice a1' L2 c1') (.slice a2' n2 c2') L2 Y n2 s') (hT : T ≤ w.heap.size) (hL1 : L1 ≤ 1048576) (hL2 : L2 ≤ 1048576) (hn1 : n1 ≤ 1048576) (hn2 : n2 ≤ 1048576) (hX : ∀ j, j < L1 → PLe (X j) 1048576) (hY : ∀ j, j < L2 → PLe (Y j) 1048576) :
    Calls Try.prog 7 #[.agg #[.slice a1 L1 c1, .slice a2 n1 c2], .agg #[.slice a1' L2 c1', .slice a2' n2 c2']] w fun e w' => ∃ r, e = .returned (.bool r) ∧ (r = true ↔ MEq L1 L2 X Y n1 n2 s s') ∧ Below w.heap.size w w' := by
  have B2 : Below w.heap.size w ((w.alloc (.cells #[.slice a1 L1 c1, .slice a2 n1 c2] 30)).alloc (.cells #[.slice a1' L2 c1', .slice a2' n2 c2'] 30)) := ((Below.refl _ _).alloc (Nat.le_refl _) _).alloc (by simp) _
  have HE : Hid (Calls _ _ _ _ _) := eqProtos_any a1 a1' L1 c1 L2 c1' X Y T _ (h1.1.below B2 hT) (h2.1.below B2 hT) (by simp; omega) hL1 hL2 hX hY
  have HS1 : Hid (TxF T w (.slice a2 n1 c2) n1 s) := h1.2
  have HS2 : Hid (TxF T w (.slice a2' n2 c2') n2 s') := h2.2
  clear h1 h2 hX hY
  go_enter Try.func7, Try.ntmps7
  go_wp2_with fail
  refine HE.out.mono ?_
  rintro e w1 ⟨r, rfl, hr, b1⟩
  have k1 := fun i => (bcell b1).1 (w.heap.size + 1) i (by simp)
  have k0 := fun i => (bcell b1).1 w.heap.size i (by simp; omega)
  have z1 : w.heap.size + 1 + 1 ≤ w1.heap.size := by have := b1.size; simp at this; omega
  have BB : Below w.heap.size w w1 := B2.trans (b1.mono (by simp; omega))
  have HE2 : Hid (Calls _ _ _ _ _) := eqsTx_any a2 a2' n1 c2 n2 c2' s s' _ _ w1 (HS1.out.below BB hT) (HS2.out.below BB hT) hn1 hn2
  have HR : Hid (r = true ↔ (L1 = L2 ∧ ∀ i, i < L1 → QEq (X i) (Y i))) := hr
  clear HE b1 hr HS1 HS2
  cases r with
  | false =>
    clear HE2
    go_wp2
    go_ret
    exact ⟨false, rfl, ⟨fun h => (by cases h), fun h => absurd (HR.out.2 h.1) (by simp)⟩, BB⟩
  | true =>
    go_wp2_with (go_at_call 16; refine HE2.out.mono ?_; rintro e w2 ⟨r2, rfl, hr2, b2⟩)
    go_ret
    exact ⟨r2, by simp, ⟨fun h => ⟨HR.out.1 (by trivial), hr2.1 h⟩, fun h => hr2.2 h.2⟩, below_next BB b2⟩
end Go.Proofs.Ytekhgakededicaa
