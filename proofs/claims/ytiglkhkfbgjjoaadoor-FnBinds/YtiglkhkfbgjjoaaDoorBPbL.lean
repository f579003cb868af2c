/- What readLevel's loop comes to; the operators' table. -/
import Derived.Test.YtiglkhkfbgjjoaaDoorProg
import Derived.Test.YtiglkhkfbgjjoaaDoorBPbK
import Derived.Test.YtiglkhkfbgjjoaaDoorBLxJ
namespace Go.Proofs.YtiglkhkfbgjjoaaDoor
set_option maxRecDepth 20000
open Go.RowKit Go.PlainAid Go.Maps
set_option linter.unusedSimpArgs false
set_option linter.unusedVariables false

/-- The operators: text, level, the node's kind, its Op. -/
def opsT : List (List UInt8 × Nat × Int × Int) := [([111, 114], 1, 13, 0), ([97, 110, 100], 2, 12, 0), ([61, 61], 3, 10, 7), ([126, 61], 3, 10, 8), ([60], 3, 10, 9), ([60, 61], 3, 10, 10), ([46, 46], 4, 10, 6), ([43], 5, 10, 1), ([45], 5, 10, 2), ([42], 6, 10, 3), ([47], 6, 10, 4), ([37], 6, 10, 5)]
/-- A token that is an operator. -/
theorem opT_cases (x : TokD) : opT x = (0, 0, 0) ∨ ((x.k == 2 || x.k == 5) = true ∧ ∃ p ∈ opsT, x.tx.data.toList = p.1 ∧ opT x = p.2) := by
  cases hk : (x.k == 2 || x.k == 5) with
  | false => left; simp only [opT, isT, hk, Bool.false_and, Bool.false_eq_true, ↓reduceIte]
  | true =>
    simp only [opT, isT, hk, Bool.true_and, beq_iff_eq, ByteArray.toList_eq]
    generalize x.tx.data.toList = l
    by_cases h0 : l = [111, 114]
    · right; exact ⟨trivial, ([111, 114], 1, 13, 0), by simp [opsT], h0, by subst h0; decide⟩
    by_cases h1 : l = [97, 110, 100]
    · right; exact ⟨trivial, ([97, 110, 100], 2, 12, 0), by simp [opsT], h1, by subst h1; decide⟩
    by_cases h2 : l = [61, 61]
    · right; exact ⟨trivial, ([61, 61], 3, 10, 7), by simp [opsT], h2, by subst h2; decide⟩
    by_cases h3 : l = [126, 61]
    · right; exact ⟨trivial, ([126, 61], 3, 10, 8), by simp [opsT], h3, by subst h3; decide⟩
    by_cases h4 : l = [60]
    · right; exact ⟨trivial, ([60], 3, 10, 9), by simp [opsT], h4, by subst h4; decide⟩
    by_cases h5 : l = [60, 61]
    · right; exact ⟨trivial, ([60, 61], 3, 10, 10), by simp [opsT], h5, by subst h5; decide⟩
    by_cases h6 : l = [46, 46]
    · right; exact ⟨trivial, ([46, 46], 4, 10, 6), by simp [opsT], h6, by subst h6; decide⟩
    by_cases h7 : l = [43]
    · right; exact ⟨trivial, ([43], 5, 10, 1), by simp [opsT], h7, by subst h7; decide⟩
    by_cases h8 : l = [45]
    · right; exact ⟨trivial, ([45], 5, 10, 2), by simp [opsT], h8, by subst h8; decide⟩
    by_cases h9 : l = [42]
    · right; exact ⟨trivial, ([42], 6, 10, 3), by simp [opsT], h9, by subst h9; decide⟩
    by_cases h10 : l = [47]
    · right; exact ⟨trivial, ([47], 6, 10, 4), by simp [opsT], h10, by subst h10; decide⟩
    by_cases h11 : l = [37]
    · right; exact ⟨trivial, ([37], 6, 10, 5), by simp [opsT], h11, by subst h11; decide⟩
    left
    simp only [h0, h1, h2, h3, h4, h5, h6, h7, h8, h9, h10, h11, ↓reduceIte]
theorem lvT (x : TokD) (l : Nat) (hl : 1 ≤ l) : (if l ≤ 1 ∧ [(⟨#[111, 114]⟩ : ByteArray)].any (isT x) = true then 1 else if l ≤ 2 ∧ [(⟨#[97, 110, 100]⟩ : ByteArray)].any (isT x) = true then 2 else if l ≤ 3 ∧ [(⟨#[61, 61]⟩ : ByteArray), ⟨#[126, 61]⟩, ⟨#[60]⟩, ⟨#[60, 61]⟩].any (isT x) = true then 3 else if l ≤ 4 ∧ [(⟨#[46, 46]⟩ : ByteArray)].any (isT x) = true then 4 else if l ≤ 5 ∧ [(⟨#[43]⟩ : ByteArray), ⟨#[45]⟩].any (isT x) = true then 5 else if l ≤ 6 ∧ [(⟨#[42]⟩ : ByteArray), ⟨#[47]⟩, ⟨#[37]⟩].any (isT x) = true then 6 else 0) = if l ≤ (opT x).1 then (opT x).1 else 0 := by
  cases hk : (x.k == 2 || x.k == 5) with
  | false =>
    simp only [opT, isT, hk, Bool.false_and, List.any_cons, List.any_nil, Bool.or_false, Bool.false_eq_true, and_false, ↓reduceIte]
    split <;> rfl
  | true =>
    simp only [opT, isT, hk, Bool.true_and, beq_iff_eq, ByteArray.toList_eq, List.any_cons, List.any_nil, Bool.or_false, Bool.or_eq_true]
    generalize x.tx.data.toList = y
    by_cases h0 : y = [111, 114]
    · subst h0
      simp (config := { decide := true }) only [true_and, and_true, false_or, or_false, or_true, true_or, and_false, ↓reduceIte]
      try (split <;> first | rfl | (split <;> rfl) | omega)
    by_cases h1 : y = [97, 110, 100]
    · subst h1
      simp (config := { decide := true }) only [true_and, and_true, false_or, or_false, or_true, true_or, and_false, ↓reduceIte]
      try (split <;> first | rfl | (split <;> rfl) | omega)
    by_cases h2 : y = [61, 61]
    · subst h2
      simp (config := { decide := true }) only [true_and, and_true, false_or, or_false, or_true, true_or, and_false, ↓reduceIte]
      try (split <;> first | rfl | (split <;> rfl) | omega)
    by_cases h3 : y = [126, 61]
    · subst h3
      simp (config := { decide := true }) only [true_and, and_true, false_or, or_false, or_true, true_or, and_false, ↓reduceIte]
      try (split <;> first | rfl | (split <;> rfl) | omega)
    by_cases h4 : y = [60]
    · subst h4
      simp (config := { decide := true }) only [true_and, and_true, false_or, or_false, or_true, true_or, and_false, ↓reduceIte]
      try (split <;> first | rfl | (split <;> rfl) | omega)
    by_cases h5 : y = [60, 61]
    · subst h5
      simp (config := { decide := true }) only [true_and, and_true, false_or, or_false, or_true, true_or, and_false, ↓reduceIte]
      try (split <;> first | rfl | (split <;> rfl) | omega)
    by_cases h6 : y = [46, 46]
    · subst h6
      simp (config := { decide := true }) only [true_and, and_true, false_or, or_false, or_true, true_or, and_false, ↓reduceIte]
      try (split <;> first | rfl | (split <;> rfl) | omega)
    by_cases h7 : y = [43]
    · subst h7
      simp (config := { decide := true }) only [true_and, and_true, false_or, or_false, or_true, true_or, and_false, ↓reduceIte]
      try (split <;> first | rfl | (split <;> rfl) | omega)
    by_cases h8 : y = [45]
    · subst h8
      simp (config := { decide := true }) only [true_and, and_true, false_or, or_false, or_true, true_or, and_false, ↓reduceIte]
      try (split <;> first | rfl | (split <;> rfl) | omega)
    by_cases h9 : y = [42]
    · subst h9
      simp (config := { decide := true }) only [true_and, and_true, false_or, or_false, or_true, true_or, and_false, ↓reduceIte]
      try (split <;> first | rfl | (split <;> rfl) | omega)
    by_cases h10 : y = [47]
    · subst h10
      simp (config := { decide := true }) only [true_and, and_true, false_or, or_false, or_true, true_or, and_false, ↓reduceIte]
      try (split <;> first | rfl | (split <;> rfl) | omega)
    by_cases h11 : y = [37]
    · subst h11
      simp (config := { decide := true }) only [true_and, and_true, false_or, or_false, or_true, true_or, and_false, ↓reduceIte]
      try (split <;> first | rfl | (split <;> rfl) | omega)
    simp only [h0, h1, h2, h3, h4, h5, h6, h7, h8, h9, h10, h11, or_false, and_false, ↓reduceIte]
    split <;> rfl
theorem lvN_op (ts : List TokD) (l : Nat) (s : PS) (hl : 1 ≤ l) : lvN ts l s = if l ≤ (opAt ts s).1 then (opAt ts s).1 else 0 := by
  unfold lvN isNL isN opAt
  cases ts[s.i]? with
  | none =>
    simp only [List.any_cons, List.any_nil, Bool.or_false, Bool.false_eq_true, and_false, ↓reduceIte]
    split <;> rfl
  | some x => exact lvT x l hl
/-- The operators of one level, with enough of fuel. -/
theorem mlp_fuel {ts : List TokD} {r : Rd} (hr : RdOk ts r) {level : Nat} (hl : level ≠ 0) : ∀ (n m : Nat) (a : Int) (s : PS), ts.length < s.i + n → ts.length < s.i + m → s.i ≤ ts.length → mlp ts r level n a s = mlp ts r level m a s
  | 0, m, a, s, h1, h2, h3 => absurd h1 (by omega)
  | n + 1, 0, a, s, h1, h2, h3 => absurd h2 (by omega)
  | n + 1, m + 1, a, s, h1, h2, h3 => by
    unfold mlp
    by_cases h : (opAt ts s).1 = level
    · rw [if_pos h, if_pos h]
      rcases e : r.lv (level + 1) (adv s) with ⟨y⟩ | ⟨b, s1⟩
      · rfl
      · have o := (hr.lv e).1
        have o1 := o.1
        have o2 := o.2.1
        have i1 : (adv s).i = s.i + 1 := rfl
        simp only
        by_cases h3 : level = 3
        · rw [if_pos h3, if_pos h3]
        · rw [if_neg h3, if_neg h3]
          refine mlp_fuel hr hl n m _ _ ?_ ?_ ?_
          · show ts.length < s1.i + n
            omega
          · show ts.length < s1.i + m
            omega
          · exact o2
    · rw [if_neg h, if_neg h]
theorem mlp_none {ts : List TokD} {r : Rd} {level n : Nat} {a : Int} {s : PS} (h : (opAt ts s).1 ≠ level) : mlp ts r level (n + 1) a s = .ok (a, s) := by
  unfold mlp
  rw [if_neg h]
theorem cas_none {ts : List TokD} {r : Rd} {lv : Nat} {a : Int} {s : PS} : ∀ (g : Nat), (∀ h, lv ≤ h → h ≤ g → 1 ≤ h → (opAt ts s).1 ≠ h) → casP ts r lv g a s = .ok (a, s)
  | 0, h => rfl
  | g + 1, h => by
    unfold casP
    by_cases e : g + 1 < lv
    · rw [if_pos e]
    · rw [if_neg e, mlp_none (h (g + 1) (by omega) (by omega) (by omega))]
      exact cas_none g fun k h1 h2 => h k h1 (by omega)
/-- From a level down, where an operator of that level comes next. -/
theorem cas_here {ts : List TokD} {r : Rd} (hr : RdOk ts r) {lv l : Nat} (hl : lv ≤ l) (h1 : 1 ≤ l) {a : Int} {s : PS} (ho : (opAt ts s).1 = l) (hi : s.i ≤ ts.length) : casP ts r lv l a s = match r.lv (l + 1) (adv s) with
    | .error x => .error x
    | .ok (b, s1) => casP ts r lv (if l = 3 then 2 else l) (addP (opAt ts s).2.1 eT (opAt ts s).2.2 [a, b] s1).1 (addP (opAt ts s).2.1 eT (opAt ts s).2.2 [a, b] s1).2 := by
  obtain ⟨k, rfl⟩ : ∃ k, l = k + 1 := ⟨l - 1, by omega⟩
  rw [casP, if_neg (by omega)]
  rw [mlp, if_pos ho]
  rcases e : r.lv (k + 1 + 1) (adv s) with ⟨y⟩ | ⟨b, s1⟩
  · rfl
  · have o := (hr.lv e).1
    have o1 := o.1
    have o2 := o.2.1
    have i1 : (adv s).i = s.i + 1 := rfl
    simp only
    by_cases h3 : k + 1 = 3
    · rw [if_pos h3, if_pos h3]
      obtain rfl : k = 2 := by omega
      rfl
    · rw [if_neg h3, if_neg h3, casP, if_neg (by omega)]
      rw [mlp_fuel hr (show k + 1 ≠ 0 by omega) ts.length (ts.length + 1) (addP (opAt ts s).2.1 eT (opAt ts s).2.2 [a, b] s1).1 (addP (opAt ts s).2.1 eT (opAt ts s).2.2 [a, b] s1).2 (by show ts.length < s1.i + ts.length; omega) (by show ts.length < s1.i + (ts.length + 1); omega) o2]
theorem cas_down {ts : List TokD} {r : Rd} {lv l : Nat} {a : Int} {s : PS} (ho : (opAt ts s).1 = l) (hl : lv ≤ l) : ∀ (g : Nat), l ≤ g → casP ts r lv g a s = casP ts r lv l a s
  | 0, h => by
    obtain rfl : l = 0 := by omega
    rfl
  | g + 1, h => by
    by_cases e : l = g + 1
    · rw [e]
    · rw [casP, if_neg (by omega), mlp_none (by omega)]
      exact cas_down ho hl g (by omega)
theorem cas_step {ts : List TokD} {r : Rd} (hr : RdOk ts r) {lv l g : Nat} (hl : lv ≤ l) (h1 : 1 ≤ l) (hg : l ≤ g) {a : Int} {s : PS} (ho : (opAt ts s).1 = l) (hi : s.i ≤ ts.length) : casP ts r lv g a s = match r.lv (l + 1) (adv s) with
    | .error x => .error x
    | .ok (b, s1) => casP ts r lv (if l = 3 then 2 else l) (addP (opAt ts s).2.1 eT (opAt ts s).2.2 [a, b] s1).1 (addP (opAt ts s).2.1 eT (opAt ts s).2.2 [a, b] s1).2 := by
  rw [cas_down ho hl g hg]
  exact cas_here hr hl h1 ho hi
theorem undOp : Tryd.prog.underlying 160 = some (.array 11 9) := by kernel_rfl
def arrO (M : Nat → ByteArray) : Array Value := ((List.range 11).map fun j => Value.string (M j)).toArray
theorem arrO_at (M : Nat → ByteArray) {j : Nat} (h : j < 11) : (arrO M)[j]? = some (.string (M j)) := by
  unfold arrO
  simp [h]
theorem index_op (M : Nat → ByteArray) {j : Nat} (hj : j < 11) (w : World) : (Instr.index 160 (.agg (arrO M)) (.int .i64 (j : Int))).run Tryd.prog w = .ok (.string (M j)) w := by
  have hn : 0 ≤ (j : Int) ∧ (j : Int) < (11 : Nat) := by omega
  have e := arrO_at M hj
  simp [Instr.index, run_underlying undOp, asIntOf, hn, go_sem, e]
  omega
theorem infoOp : (Tryd.prog.info? 160).map (·.size) = some 11 := by kernel_rfl
theorem load_op (M : Nat → ByteArray) (w : World) (hc : ∀ i, i < 11 → w.cell? ⟨1, i, none⟩ = some (.string (M i))) : (Instr.loadAt 160 (.pointer (some ⟨1, 0, none⟩))).run Tryd.prog w = .ok (.agg (arrO M)) w := by
  have hl := run_loadCells (P := Tryd.prog) w ⟨1, 0, none⟩ 11 (fun j => Value.string (M j)) (fun j hj => by rw [Addr.add_lit, Nat.zero_add]; exact hc j hj)
  cases hq : Tryd.prog.info? 160 with
  | none => have := infoOp; rw [hq] at this; cases this
  | some i =>
    have hs : i.size = 11 := by have := infoOp; rw [hq] at this; simpa using this
    have hagg : (isAgg 160).run Tryd.prog w = .ok true w := by
      unfold isAgg
      rw [Sem.run_bind, run_underlying undOp w]
      simp
    simp [Instr.loadAt, Instr.sureAddr, loadVar, Sem.run_bind, hagg, sizeOf, typeInfo, hq, hs, hl, arrO]
/-- The last one of the first n texts that is the operator; else 0. -/
def lastO (M : Nat → ByteArray) (y : ByteArray) : Nat → Int
  | 0 => 0
  | n + 1 => if ((M n).toList == y.toList) = true then (n : Int) else lastO M y n
set_option maxHeartbeats 1000000 in
theorem opOf_by (M : Nat → ByteArray) (y : ByteArray) (w : World) (hc : ∀ i, i < 11 → w.cell? ⟨1, i, none⟩ = some (.string (M i))) :
    Calls Tryd.prog 190 #[.string y] w fun e w' => e = .returned (.int .i64 (lastO M y 11)) ∧ w = w' := by
  have HL := load_op M w hc
  have HI : ∀ (j : Nat) W, j < 11 → (Instr.index 160 (.agg (arrO M)) (.int .i64 (j : Int))).run Tryd.prog W = .ok (.string (M j)) W := fun j W hj => index_op M hj W
  generalize arrO M = A at HL HI
  have HII : Hid _ := HI
  clear hc HI
  go_enter Tryd.func190, Tryd.ntmps190
  go_wp2_with (refine wpList_load_at rfl _ _ rfl _ HL ?_)
  go_loopw [3, 7] (fun p q wr => wr = w ∧ ∃ j : Nat, q = .int .i64 j ∧ j ≤ 11 ∧ ∃ z, p = .int .i64 z ∧ Hid (z = lastO M y j)) (fun _ q _ => 11 - (intOf q).toNat)
  case atStart => exact ⟨rfl, 0, by go_num, by omega, 0, rfl, rfl⟩
  case round =>
    obtain ⟨rfl, j, rfl, hj, z, rfl, hz⟩ := hrel
    by_cases hlt : j < 11
    · have hlt' : (j : Int) < 11 := by omega
      have hi := HII.out j wr hlt
      cases hq : ((M j).toList == y.toList) with
      | true =>
        have HV : Hid ((j : Int) = lastO M y (j + 1)) := by show (j : Int) = lastO M y (j + 1); rw [lastO, if_pos hq]
        clear hz HII
        generalize M j = m at hi hq
        go_wp2
        go_roundw
        case rel => exact ⟨by first | rfl | trivial, j + 1, by go_num, by omega, _, rfl, HV⟩
        case measure => simp [intOf]; omega
      | false =>
        have HV : Hid (z = lastO M y (j + 1)) := by show z = lastO M y (j + 1); rw [lastO, if_neg (by rw [hq]; decide)]; exact hz.out
        clear hz HII
        generalize M j = m at hi hq
        go_wp2
        go_roundw
        case rel => exact ⟨by first | rfl | trivial, j + 1, by go_num, by omega, _, rfl, HV⟩
        case measure => simp [intOf]; omega
    · have hlt' : ¬ (j : Int) < 11 := by omega
      obtain rfl : j = 11 := by omega
      go_wp2
      go_ret
      exact ⟨by rw [← hz.out]; rfl, rfl⟩
def opM (i : Nat) : ByteArray := opL.getD i ⟨#[]⟩
theorem opOf_at {rb : Nat} {w : World} (h : TabR rb w) (x : TokD) (hk : (opT x).2.1 = 10) :
    Calls Tryd.prog 190 #[.string x.tx] w fun e w' => e = .returned (.int .i64 (opT x).2.2) ∧ w = w' := by
  refine (opOf_by opM x.tx w (fun i hi => h.op i _ ?_)).mono fun e w' ⟨h1, h2⟩ => ⟨?_, h2⟩
  · unfold opM
    rw [List.getD_eq_getElem?_getD, List.getElem?_eq_getElem (by simpa [opL] using hi)]
    rfl
  · rw [h1]
    rcases opT_cases x with e | ⟨_, p, hp, e1, e2⟩
    · rw [e] at hk; exact absurd hk (by decide)
    · rw [e2] at hk ⊢
      have : lastO opM x.tx 11 = p.2.2.2 := by
        simp only [lastO, ByteArray.toList_eq, e1]
        simp only [opsT, List.mem_cons, List.not_mem_nil, or_false] at hp
        rcases hp with rfl | rfl | rfl | rfl | rfl | rfl | rfl | rfl | rfl | rfl | rfl | rfl
        all_goals first | (exact absurd hk (by decide)) | decide
      rw [this]
set_option maxHeartbeats 4000000 in
theorem St.op {rb : Nat} {ts : List TokD} {tv : Value} {en : Nat} {w w1 : World} {v v1 : Value} {kv K : List Value} {s1 : PS} (h : St rb ts tv en w v kv w1 v1 K s1) (x : TokD) (hx : (opT x).1 ≠ 0) (a b : Int) (hn : s1.ns.length ≤ 100000) :
    Calls Tryd.prog 183 #[.pointer (some ⟨rb, 0, none⟩), .string x.tx, .int .i64 a, .int .i64 b] w1 fun e w2 => e = .returned (.int .i64 (addP (opT x).2.1 eT (opT x).2.2 [a, b] s1).1) ∧ ∃ v2 K2, St rb ts tv en w v kv w2 v2 K2 (addP (opT x).2.1 eT (opT x).2.2 [a, b] s1).2 := by
  have HS : Hid (St rb ts tv en w v kv w1 v1 K s1) := h
  have HO : Hid ((opT x).2.1 = 10 → _) := fun hk => opOf_at h.rd.tb x hk
  have HN : Hid (s1.ns.length ≤ 100000) := hn
  clear hn
  rcases opT_cases x with e | ⟨_, p, hp, e1, e2⟩
  · rw [e] at hx; exact absurd rfl hx
  rw [← ByteArray.toList_eq] at e1
  rw [e2] at HO ⊢
  clear h hx e2
  by_cases k1 : p.2.2.1 = 13
  · have q1 : (x.tx.toList == [111, 114]) = true := by
      simp only [opsT, List.mem_cons, List.not_mem_nil, or_false] at hp
      rw [e1]
      rcases hp with rfl | rfl | rfl | rfl | rfl | rfl | rfl | rfl | rfl | rfl | rfl | rfl
      all_goals first | (exact absurd k1 (by decide)) | decide
    have q2 : p.2.2.2 = 0 := by
      simp only [opsT, List.mem_cons, List.not_mem_nil, or_false] at hp
      rcases hp with rfl | rfl | rfl | rfl | rfl | rfl | rfl | rfl | rfl | rfl | rfl | rfl
      all_goals first | (exact absurd k1 (by decide)) | decide
    rw [k1, q2]
    generalize x.tx = tx at q1
    clear HO e1 hp
    go_enter Tryd.func183, Tryd.ntmps183
    go_wp2_with (go_at_call 94; refine (HS.out.add [a, b] 13 eT 0 (by simp) (by exact HN.out) _ _ _ rfl rfl rfl).mono ?_; rintro e w2 ⟨rfl, v2, K2, h2⟩; have H2 : Hid (St rb ts tv en w v kv w2 v2 K2 (addP 13 eT 0 [a, b] s1).2) := h2; clear h2)
    go_ret
    exact ⟨rfl, _, _, H2.out⟩
  have f1 : (x.tx.toList == [111, 114]) = false := by
    simp only [opsT, List.mem_cons, List.not_mem_nil, or_false] at hp
    rw [e1]
    rcases hp with rfl | rfl | rfl | rfl | rfl | rfl | rfl | rfl | rfl | rfl | rfl | rfl
    all_goals first | (exact absurd rfl k1) | decide
  by_cases k2 : p.2.2.1 = 12
  · have q1 : (x.tx.toList == [97, 110, 100]) = true := by
      simp only [opsT, List.mem_cons, List.not_mem_nil, or_false] at hp
      rw [e1]
      rcases hp with rfl | rfl | rfl | rfl | rfl | rfl | rfl | rfl | rfl | rfl | rfl | rfl
      all_goals first | (exact absurd k2 (by decide)) | decide
    have q2 : p.2.2.2 = 0 := by
      simp only [opsT, List.mem_cons, List.not_mem_nil, or_false] at hp
      rcases hp with rfl | rfl | rfl | rfl | rfl | rfl | rfl | rfl | rfl | rfl | rfl | rfl
      all_goals first | (exact absurd k2 (by decide)) | decide
    rw [k2, q2]
    generalize x.tx = tx at q1 f1
    clear HO e1 hp
    go_enter Tryd.func183, Tryd.ntmps183
    go_wp2_with (go_at_call 94; refine (HS.out.add [a, b] 12 eT 0 (by simp) (by exact HN.out) _ _ _ rfl rfl rfl).mono ?_; rintro e w2 ⟨rfl, v2, K2, h2⟩; have H2 : Hid (St rb ts tv en w v kv w2 v2 K2 (addP 12 eT 0 [a, b] s1).2) := h2; clear h2)
    go_ret
    exact ⟨rfl, _, _, H2.out⟩
  have f2 : (x.tx.toList == [97, 110, 100]) = false := by
    simp only [opsT, List.mem_cons, List.not_mem_nil, or_false] at hp
    rw [e1]
    rcases hp with rfl | rfl | rfl | rfl | rfl | rfl | rfl | rfl | rfl | rfl | rfl | rfl
    all_goals first | (exact absurd rfl k2) | decide
  have q2 : p.2.2.1 = 10 := by
    simp only [opsT, List.mem_cons, List.not_mem_nil, or_false] at hp
    rcases hp with rfl | rfl | rfl | rfl | rfl | rfl | rfl | rfl | rfl | rfl | rfl | rfl
    all_goals first | (exact absurd rfl k1) | (exact absurd rfl k2) | decide
  have HC := HO.out q2
  rw [q2]
  generalize p.2.2.2 = z at HC
  have HCC : Hid (Calls _ _ _ _ _) := HC
  generalize x.tx = tx at HCC f1 f2
  clear HO HC e1 hp k1 k2
  go_enter Tryd.func183, Tryd.ntmps183
  go_wp2_with (go_at_call 190; refine HCC.out.mono ?_; rintro e wx ⟨rfl, hwx⟩; subst hwx)
  go_wp2_with (go_at_call 94; refine (HS.out.add [a, b] 10 eT z (by simp) (by exact HN.out) _ _ _ rfl rfl rfl).mono ?_; rintro e w2 ⟨rfl, v2, K2, h2⟩; have H2 : Hid (St rb ts tv en w v kv w2 v2 K2 (addP 10 eT z [a, b] s1).2) := h2; clear h2)
  go_ret
  exact ⟨rfl, _, _, H2.out⟩
end Go.Proofs.YtiglkhkfbgjjoaaDoor
