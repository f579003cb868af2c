/- What heads are, as plain propositions on whole numbers: the walks of both packages' HeadOk end in 'hOk', of PackHead in 'pack', of ReadHead in its inverse. No Go here. -/
import Derived.WalkKit
import Derived.Test.YtmckcnmlhgpnhaaGreatProg
import Derived.WalkSpells
import Derived.WalkLawsBesides
import Derived.Below
import Derived.Outline
import Derived.Deep.Light
import Derived.Deep.OwnRows
import Derived.Deep.QuietTactic
import Derived.BigQuiet
import Derived.OpenShut
namespace Go.Proofs.YtmckcnmlhgpnhaaGreat
set_option maxRecDepth 20000

/-- A right head, by its kind, size and serial. -/
def HOk (k s n : Int) : Prop :=
  (k = 1 ∧ 1 ≤ s ∧ s ≤ 21 ∧ n = 0) ∨ (k = 2 ∧ s = 3 ∧ 1 ≤ n ∧ n ≤ 1000000000) ∨
  (k = 3 ∧ (s = 16 ∨ s = 32 ∨ s = 64 ∨ s = 128 ∨ s = 256) ∧ n = 0) ∨
  (k = 4 ∧ 1 ≤ s ∧ s ≤ 25 ∧ s % 2 = 1 ∧ 1 ≤ n ∧ n ≤ 1000000000) ∨ (k = 5 ∧ s = 2 ∧ n = 0) ∨
  (k = 6 ∧ s = 126 ∧ 1 ≤ n ∧ n ≤ 1000000000)
def hOk (k s n : Int) : Bool := decide (
  (k = 1 ∧ 1 ≤ s ∧ s ≤ 21 ∧ n = 0) ∨ (k = 2 ∧ s = 3 ∧ 1 ≤ n ∧ n ≤ 1000000000) ∨
  (k = 3 ∧ (s = 16 ∨ s = 32 ∨ s = 64 ∨ s = 128 ∨ s = 256) ∧ n = 0) ∨
  (k = 4 ∧ 1 ≤ s ∧ s ≤ 25 ∧ s % 2 = 1 ∧ 1 ≤ n ∧ n ≤ 1000000000) ∨ (k = 5 ∧ s = 2 ∧ n = 0) ∨
  (k = 6 ∧ s = 126 ∧ 1 ≤ n ∧ n ≤ 1000000000))
theorem hOk_iff (k s n : Int) : hOk k s n = true ↔ HOk k s n := by unfold hOk HOk; exact decide_eq_true_iff
def inB (x a b : Int) : Bool := decide (a ≤ x ∧ x ≤ b)
/-- The size alone. -/
def SOk (k s : Int) : Prop :=
  (k = 1 ∧ 1 ≤ s ∧ s ≤ 21) ∨ (k = 2 ∧ s = 3) ∨ (k = 3 ∧ (s = 16 ∨ s = 32 ∨ s = 64 ∨ s = 128 ∨ s = 256)) ∨
  (k = 4 ∧ 1 ≤ s ∧ s ≤ 25 ∧ s % 2 = 1) ∨ (k = 5 ∧ s = 2) ∨ (k = 6 ∧ s = 126)
def sOk (k s : Int) : Bool := decide (
  (k = 1 ∧ 1 ≤ s ∧ s ≤ 21) ∨ (k = 2 ∧ s = 3) ∨ (k = 3 ∧ (s = 16 ∨ s = 32 ∨ s = 64 ∨ s = 128 ∨ s = 256)) ∨
  (k = 4 ∧ 1 ≤ s ∧ s ≤ 25 ∧ s % 2 = 1) ∨ (k = 5 ∧ s = 2) ∨ (k = 6 ∧ s = 126))
def hasS (k : Int) : Bool := decide (k = 2 ∨ k = 4 ∨ k = 6)

theorem sOk_iff (k s : Int) : sOk k s = true ↔ SOk k s := by unfold sOk SOk; exact decide_eq_true_iff
theorem hOk_no {k s : Int} (n : Int) (h : sOk k s = false) : hOk k s n = false := by
  rw [← Bool.not_eq_true, hOk_iff]
  rw [← Bool.not_eq_true, sOk_iff] at h
  refine fun g => h ?_
  unfold HOk at g; unfold SOk
  rcases g with ⟨rfl, g⟩ | ⟨rfl, g⟩ | ⟨rfl, g⟩ | ⟨rfl, g⟩ | ⟨rfl, g⟩ | ⟨rfl, g⟩ <;> simp <;> omega
theorem hOk_born {k s : Int} (n : Int) (h : sOk k s = true) (h' : hasS k = true) : hOk k s n = decide (1 ≤ n ∧ n ≤ 1000000000) := by
  rw [Bool.eq_iff_iff, hOk_iff, decide_eq_true_eq]
  rw [sOk_iff] at h
  simp only [hasS, decide_eq_true_eq] at h'
  unfold SOk at h; unfold HOk
  rcases h with ⟨rfl, g⟩ | ⟨rfl, g⟩ | ⟨rfl, g⟩ | ⟨rfl, g⟩ | ⟨rfl, g⟩ | ⟨rfl, g⟩ <;> simp at h' ⊢ <;> omega
theorem hOk_plain {k s : Int} (n : Int) (h : sOk k s = true) (h' : hasS k = false) : hOk k s n = decide (n = 0) := by
  rw [Bool.eq_iff_iff, hOk_iff, decide_eq_true_eq]
  rw [sOk_iff] at h
  simp only [hasS, decide_eq_false_iff_not] at h'
  unfold SOk at h; unfold HOk
  rcases h with ⟨rfl, g⟩ | ⟨rfl, g⟩ | ⟨rfl, g⟩ | ⟨rfl, g⟩ | ⟨rfl, g⟩ | ⟨rfl, g⟩ <;> simp at h' ⊢ <;> omega

theorem ret_bool {a b : Bool} (h : a = b) : Ending.returned (.bool a) = .returned (.bool b) := by rw [h]
theorem ret_int {k : IntKind} {a b : Int} (h : a = b) : Ending.returned (.int k a) = .returned (.int k b) := by rw [h]

theorem and1_fin : ∀ n : Fin 26, bits .and .i64 (n.val : Int) 1 = (n.val : Int) % 2 := by decide +kernel
theorem and1 (s : Int) (h : 0 ≤ s) (h' : s ≤ 25) : bits .and .i64 s 1 = s % 2 := by
  obtain ⟨n, rfl⟩ := Int.eq_ofNat_of_zero_le h
  exact and1_fin ⟨n, by omega⟩
theorem pow2_fin : ∀ n : Fin 257, 16 ≤ n.val → (bits .and .i64 (n.val : Int) ((n.val : Int) - 1) = 0 ↔ (n.val = 16 ∨ n.val = 32 ∨ n.val = 64 ∨ n.val = 128 ∨ n.val = 256)) := by decide +kernel
theorem pow2 (s : Int) (h : 16 ≤ s) (h' : s ≤ 256) : bits .and .i64 s (s - 1) = 0 ↔ (s = 16 ∨ s = 32 ∨ s = 64 ∨ s = 128 ∨ s = 256) := by
  obtain ⟨n, rfl⟩ := Int.eq_ofNat_of_zero_le (a := s) (by omega)
  have := pow2_fin ⟨n, by omega⟩ (by simp only; omega)
  simp only at this
  rw [this]; omega

end Go.Proofs.YtmckcnmlhgpnhaaGreat

/- The model's HeadOk answers 'hOk'. -/
namespace Go.Proofs.YtmckcnmlhgpnhaaGreat
set_option maxRecDepth 20000

open Go.RowKit
set_option linter.unusedSimpArgs false

theorem l1In_any (x a b : Int) (w : World) :
    Calls Tryz.prog 104 #[.int .i64 x, .int .i64 a, .int .i64 b] w fun e w' => e = .returned (.bool (inB x a b)) ∧ w' = w := by
  go_enter Tryz.func104, Tryz.ntmps104
  go_wp2
  all_goals
    go_ret
    refine ⟨ret_bool ?_, rfl⟩
    go_light
    rw [Bool.eq_iff_iff]
    simp [inB] at * <;> omega

theorem specHeadOk_any (k s n : Int) (w : World) :
    Calls Tryz.prog 99 #[.agg #[.int .i64 k, .int .i64 s, .int .i64 n]] w fun e w' => e = .returned (.bool (hOk k s n)) ∧ Below w.heap.size w w' := by
  go_enter Tryz.func99, Tryz.ntmps99
  go_wp2_with (go_at_call 104; refine (l1In_any _ _ _ _).mono ?_; rintro e w' ⟨rfl, rfl⟩)
  all_goals
    go_ret
    refine ⟨ret_bool ?_, (Below.refl _ _).alloc (Nat.le_refl _) _⟩
    go_light
    rw [Bool.eq_iff_iff]
    simp [hOk, inB] at *
    all_goals (try have ht := Int.tmod_eq_emod_of_nonneg (a := s) (b := 2) (by omega))
    all_goals omega

theorem blockSizeOk_any (s : Int) (w : World) :
    Calls Tryz.prog 209 #[.int .i64 s] w fun e w' => e = .returned (.bool (decide (s = 16 ∨ s = 32 ∨ s = 64 ∨ s = 128 ∨ s = 256))) ∧ w' = w := by
  go_enter Tryz.func209, Tryz.ntmps209
  go_wp2
  all_goals
    go_ret
    refine ⟨ret_bool ?_, rfl⟩
    try have ht := pow2 s (by omega) (by omega)
    go_light
    rw [Bool.eq_iff_iff]
    simp at * <;> omega

theorem hasSerial_any (k : Int) (w : World) :
    Calls Tryz.prog 187 #[.int .i64 k] w fun e w' => e = .returned (.bool (hasS k)) ∧ w' = w := by
  go_enter Tryz.func187, Tryz.ntmps187
  go_wp2
  all_goals
    go_ret
    refine ⟨ret_bool ?_, rfl⟩
    go_light
    rw [Bool.eq_iff_iff]
    simp [hasS] at * <;> omega

theorem textSize0 (w : World) : Calls Tryz.prog 208 #[.int .i64 0] w fun e w' => e = .returned (.int .i64 1) ∧ w' = w := by
  go_enter Tryz.func208, Tryz.ntmps208
  go_wp2
  go_ret
  exact ⟨rfl, rfl⟩
theorem textSize160 (w : World) : Calls Tryz.prog 208 #[.int .i64 160] w fun e w' => e = .returned (.int .i64 21) ∧ w' = w := by
  go_enter Tryz.func208, Tryz.ntmps208
  go_wp2
  go_ret
  exact ⟨rfl, rfl⟩

theorem sizeOk_any (k s : Int) (w : World) :
    Calls Tryz.prog 186 #[.int .i64 k, .int .i64 s] w fun e w' => e = .returned (.bool (sOk k s)) ∧ w' = w := by
  go_enter Tryz.func186, Tryz.ntmps186
  go_wp2_with (first | (go_at_call 209; refine (blockSizeOk_any _ _).mono ?_; rintro e w' ⟨rfl, rfl⟩) | (go_at_call 208; refine (textSize0 _).mono ?_; rintro e w' ⟨rfl, rfl⟩) | (go_at_call 208; refine (textSize160 _).mono ?_; rintro e w' ⟨rfl, rfl⟩))
  all_goals
    go_ret
    refine ⟨ret_bool ?_, rfl⟩
    go_light
    rw [Bool.eq_iff_iff]
    simp [sOk] at *
    all_goals have ht := and1 s
    all_goals omega

theorem implHeadOk_any (k s n : Int) (w : World) :
    Calls Tryz.prog 146 #[.agg #[.int .i64 k, .int .i64 s, .int .i64 n]] w fun e w' => e = .returned (.bool (hOk k s n)) ∧ Below w.heap.size w w' := by
  go_enter Tryz.func146, Tryz.ntmps146
  go_wp2_with (first | (go_at_call 186; refine (sizeOk_any _ _ _).mono ?_; rintro e w' ⟨rfl, rfl⟩) | (go_at_call 187; refine (hasSerial_any _ _).mono ?_; rintro e w' ⟨rfl, rfl⟩))
  all_goals
    go_ret
    refine ⟨ret_bool ?_, (Below.refl _ _).alloc (Nat.le_refl _) _⟩
    go_light
  · rw [hOk_no n (by simpa using ‹(!sOk k s) = true›)]
  · rw [hOk_born n (by simpa using ‹(!sOk k s) = false›) ‹_›, decide_eq_decide]; omega
  · rw [hOk_born n (by simpa using ‹(!sOk k s) = false›) ‹_›]; symm; apply decide_eq_false; omega
  · rw [hOk_plain n (by simpa using ‹(!sOk k s) = false›) ‹_›]; rfl

theorem bcell {W w1 : World} {B : Nat} (hb : Below B W w1) : (∀ b o, b < B → w1.cell? ⟨b, o, none⟩ = W.cell? ⟨b, o, none⟩) ∧ (∀ b o, b < B → w1.frozen? ⟨b, o, none⟩ = W.frozen? ⟨b, o, none⟩) :=
  ⟨fun b o h => hb.cell (p := ⟨b, o, none⟩) h, fun b o h => hb.frozen (p := ⟨b, o, none⟩) h⟩
theorem size_first {w w' : World} {o : Obj} (hb : Below (w.alloc o).heap.size (w.alloc o) w') : w.heap.size < w'.heap.size := by
  have h := hb.size
  simp at h
  omega
theorem below_first {w w' : World} {o : Obj} (hb : Below (w.alloc o).heap.size (w.alloc o) w') : Below w.heap.size w w' :=
  ((Below.refl _ _).alloc (Nat.le_refl _) _).trans (hb.mono (by simp))
theorem below_next {w w1 w2 : World} (hB : Below w.heap.size w w1) (hb : Below w1.heap.size w1 w2) : Below w.heap.size w w2 :=
  hB.trans (hb.mono hB.size)

end Go.Proofs.YtmckcnmlhgpnhaaGreat

/- Slices of words: what is read ('Sl'), what a call has made itself ('Own'); the laws' own helpers (toUint64S, eqUint64S, markUint64S, heldUint64S) by contracts. -/
namespace Go.Proofs.YtmckcnmlhgpnhaaGreat
set_option maxRecDepth 20000
open Go.RowKit
set_option linter.unusedSimpArgs false

/-- A slice of words that can be read: its elements are zs. -/
def Sl (w : World) (v : Value) (zs : List Int) : Prop :=
  ∃ a cap, v = .slice a zs.length cap ∧ (zs = [] ∨ ∃ b off, a = some ⟨b, off, none⟩ ∧ b < w.heap.size ∧ ∀ i, i < zs.length → w.cell? ⟨b, off + i, none⟩ = some (.int .u64 (zs.getD i 0)))
/-- A slice of words in a block of the call's own, from number B on. -/
def Own (B : Nat) (w : World) (v : Value) (zs : List Int) : Prop :=
  ∃ a cap, v = .slice a zs.length cap ∧ (zs = [] ∨ ∃ b n f, a = some ⟨b, 0, none⟩ ∧ B ≤ b ∧ zs.length ≤ n ∧ w.rowIs b 100 n f ∧ ∀ i, i < zs.length → f i = .int .u64 (zs.getD i 0))

theorem Own.sl {B : Nat} {w : World} {v : Value} {zs : List Int} (h : Own B w v zs) : Sl w v zs := by
  obtain ⟨a, cap, rfl, h⟩ := h
  rcases h with h | ⟨b, n, f, rfl, _, hn, hr, hf⟩
  · exact ⟨_, _, rfl, .inl h⟩
  · exact ⟨_, _, rfl, .inr ⟨b, 0, rfl, hr.lt, fun i hi => by rw [Nat.zero_add, hr.cell (by omega), hf i hi]⟩⟩
theorem Sl.below {w w' : World} {v : Value} {zs : List Int} (h : Sl w v zs) (hb : Below w.heap.size w w') : Sl w' v zs := by
  obtain ⟨a, cap, rfl, h⟩ := h
  refine ⟨a, cap, rfl, ?_⟩
  rcases h with h | ⟨b, off, rfl, hl, hc⟩
  · exact .inl h
  · exact .inr ⟨b, off, rfl, Nat.lt_of_lt_of_le hl hb.size, fun i hi => by rw [hb.cell (p := ⟨b, off + i, none⟩) hl]; exact hc i hi⟩
theorem Own.block {B : Nat} {w w' : World} {v : Value} {zs : List Int} (h : Own B w v zs) (hb : ∀ k, B ≤ k → k < w.heap.size → w'.heap[k]? = w.heap[k]?) : Own B w' v zs := by
  obtain ⟨a, cap, rfl, h⟩ := h
  refine ⟨a, cap, rfl, ?_⟩
  rcases h with h | ⟨b, n, f, rfl, hB, hn, hr, hf⟩
  · exact .inl h
  · exact .inr ⟨b, n, f, rfl, hB, hn, hr.of_block (hb b hB hr.lt), hf⟩
theorem Own.below {B : Nat} {w w' : World} {v : Value} {zs : List Int} (h : Own B w v zs) (hb : Below w.heap.size w w') : Own B w' v zs := h.block fun k _ hk => hb.block k hk
theorem Own.mono {B B' : Nat} {w : World} {v : Value} {zs : List Int} (h : Own B w v zs) (hB : B' ≤ B) : Own B' w v zs := by
  obtain ⟨a, cap, rfl, h⟩ := h
  refine ⟨a, cap, rfl, ?_⟩
  rcases h with h | ⟨b, n, f, rfl, hb, r⟩
  · exact .inl h
  · exact .inr ⟨b, n, f, rfl, Nat.le_trans hB hb, r⟩

/-- What is told of a slice of integers that came in. -/
def IsRow (k : IntKind) (w : World) (a : Option Addr) (len cap : Nat) (zs : List Int) : Prop :=
  (a = none ∧ len = 0 ∧ cap = 0 ∧ zs = []) ∨
  ∃ x, a = some x ∧ len ≤ cap ∧ cap ≤ maxLen ∧ zs.length = cap ∧ (∀ i, i < zs.length → w.cell? (x.add i) = some (.int k (zs.getD i 0))) ∧ ∀ n ∈ zs, (Lit.int k n).wf = true
def Words64 (zs : List Int) : Prop := ∀ z ∈ zs, 0 ≤ z ∧ z < 18446744073709551616
theorem IsRow.sl {w : World} {a : Option Addr} {len cap : Nat} {zs : List Int} (h : IsRow .u64 w a len cap zs) : ∃ ys : List Int, ys.length = len ∧ Sl w (.slice a len cap) ys ∧ Words64 ys := by
  rcases h with ⟨rfl, rfl, rfl, rfl⟩ | ⟨x, rfl, hl, hm, hz, hc, hw⟩
  · exact ⟨[], rfl, ⟨none, 0, rfl, .inl rfl⟩, fun z hz => by simp at hz⟩
  · refine ⟨zs.take len, by simp; omega, ⟨some x, cap, by simp [show min len zs.length = len by omega], ?_⟩, fun z hz => ?_⟩
    · by_cases h0 : len = 0
      · subst h0; exact .inl (by simp)
      · obtain ⟨b, off, spot⟩ := x
        have h1 := hc 0 (by omega)
        have hspot : spot = none := by simpa [Addr.add] using World.cell?_spot h1
        subst hspot
        refine .inr ⟨b, off, rfl, ?_, fun i hi => ?_⟩
        · rw [Addr.add_lit] at h1
          exact World.block_lt_of_cell? _ _ h1
        · have hi' : i < len := by simp at hi; omega
          have := hc i (by omega)
          rw [Addr.add_lit] at this
          rw [this]
          simp [hi']
    · have := bounds_u64 (hw z (List.mem_of_mem_take hz))
      omega

theorem info27 : (Tryz.prog.info? 100).map (fun i => (i.zero, i.size, i.bytes)) = some (some (.int .u64 0), 1, 8) := by kernel_rfl

/-- What the loop of a copy into a made row keeps. -/
def Fill (w wr : World) (n : Nat) (zs : List Int) (k : Nat) : Prop :=
  Below w.heap.size w wr ∧ wr.rowIs w.heap.size 100 n (fun j => .int .u64 (if j < k then zs.getD j 0 else 0))
theorem fill_start (w : World) (n : Nat) (zs : List Int) : Fill w (w.alloc (.cells (madeCells #[.int .u64 0] n) 100)) n zs 0 :=
  ⟨(Below.refl _ _).alloc (Nat.le_refl _) _, (World.rowIs_made w (.int .u64 0) n 100).congr (fun i _ => by simp)⟩
theorem fill_step {w wr : World} {n : Nat} {zs : List Int} {k : Nat} (h : Fill w wr n zs k) : Fill w (wr.setCell ⟨w.heap.size, k, none⟩ (.int .u64 (zs.getD k 0))) n zs (k + 1) := by
  refine ⟨h.1.setCell (Nat.le_refl _) _, (h.2.set k (.int .u64 (zs.getD k 0))).congr fun i _ => ?_⟩
  by_cases e : i = k
  · subst e; simp
  · by_cases e2 : i < k
    · simp [e, e2, show i < k + 1 by omega]
    · simp [e, e2, show ¬ i < k + 1 by omega]
theorem fill_end {w wr : World} {zs : List Int} {k : Nat} (h : Fill w wr zs.length zs k) (hk : ¬ k < zs.length) : Own w.heap.size wr (.slice (some ⟨w.heap.size, 0, none⟩) zs.length zs.length) zs :=
  ⟨some ⟨w.heap.size, 0, none⟩, zs.length, rfl, .inr ⟨w.heap.size, zs.length, _, rfl, Nat.le_refl _, Nat.le_refl _, h.2, fun i hi => by simp [show i < k by omega]⟩⟩

theorem toUint64S_any (v : Value) (zs : List Int) (w : World) (hs : Sl w v zs) (hn : zs.length ≤ 1048576) :
    Calls Tryz.prog 47 #[v] w fun e w' => ∃ v', e = .returned v' ∧ Own w.heap.size w' v' zs ∧ Below w.heap.size w w' := by
  obtain ⟨a, cap, rfl, hs⟩ := hs
  have hmk := fun (n : Nat) (hb : 8 * n ≤ 281474976710656) (h63 : n ≤ 9223372036854775807) (w : World) => run_make_row' (P := Tryz.prog) 22 100 (.int .u64 0) 8 Tryz.underlying22 info27 rfl .i64 .i64 n hb h63 w
  have hm1 := hmk zs.length (by omega) (by omega)
  clear hmk
  have hn' : (zs.length : Int) ≤ 1048576 := by omega
  go_enter Tryz.func47, Tryz.ntmps47
  go_wp2
  go_loopw [4] (fun i wr => ∃ k : Nat, k ≤ zs.length ∧ i = .int .i64 k ∧ Fill w wr zs.length zs k) (fun i _ => zs.length - (intOf i).toNat)
  case atStart => exact ⟨0, Nat.zero_le _, rfl, fill_start w _ _⟩
  case round =>
    obtain ⟨k, hk, rfl, hF⟩ := hrel
    by_cases hlt : k < zs.length
    · have hc1 := hF.2.cell hlt
      have hf1 := hF.2.frozen k
      rcases hs with rfl | ⟨b, off, rfl, hbl, hcell⟩
      · simp at hlt
      · have hc2 : wr.cell? ⟨b, off + k, none⟩ = some (.int .u64 (zs.getD k 0)) := by rw [hF.1.cell (p := ⟨b, off + k, none⟩) hbl]; exact hcell k hlt
        have hst := fill_step hF
        have hg : zs[k]?.getD 0 = zs[k] := by simp [hlt]
        go_wp2
        go_roundw
        case rel => exact ⟨k + 1, by omega, by go_num, by simpa [hlt] using hst⟩
        case measure => simp [intOf]; omega
    · go_wp2
      go_ret
      exact ⟨_, rfl, fill_end hF hlt, hF.1⟩

theorem Sl.parts {w : World} {v : Value} {zs : List Int} (h : Sl w v zs) {k : Nat} (hk : k < zs.length) :
    ∃ b off cap, v = .slice (some ⟨b, off, none⟩) zs.length cap ∧ b < w.heap.size ∧ ∀ i, i < zs.length → w.cell? ⟨b, off + i, none⟩ = some (.int .u64 (zs.getD i 0)) := by
  obtain ⟨a, cap, rfl, h⟩ := h
  rcases h with rfl | ⟨b, off, rfl, hl, hc⟩
  · simp at hk
  · exact ⟨b, off, cap, rfl, hl, hc⟩
theorem Sl.head {w : World} {v : Value} {zs : List Int} (h : Sl w v zs) : ∃ a cap, v = .slice a zs.length cap := by
  obtain ⟨a, cap, rfl, _⟩ := h
  exact ⟨a, cap, rfl⟩

theorem eqUint64S_same (v1 v2 : Value) (zs : List Int) (w : World) (h1 : Sl w v1 zs) (h2 : Sl w v2 zs) (hn : zs.length ≤ 1048576) :
    Calls Tryz.prog 52 #[v1, v2] w fun e w' => e = .returned (.bool true) ∧ Below w.heap.size w w' := by
  obtain ⟨a1, c1, rfl, h1⟩ := h1
  obtain ⟨a2, c2, rfl, h2⟩ := h2
  have hn' : (zs.length : Int) ≤ 1048576 := by omega
  go_enter Tryz.func52, Tryz.ntmps52
  go_wp2
  go_loopw [5] (fun i wr => ∃ k : Nat, k ≤ zs.length ∧ i = .int .i64 k ∧ Below w.heap.size w wr) (fun i _ => zs.length - (intOf i).toNat)
  case atStart => exact ⟨0, Nat.zero_le _, rfl, Below.refl _ _⟩
  case round =>
    obtain ⟨k, hk, rfl, hF⟩ := hrel
    by_cases hlt : k < zs.length
    · rcases h1 with rfl | ⟨b1, o1, rfl, l1, g1⟩
      · simp at hlt
      rcases h2 with rfl | ⟨b2, o2, rfl, l2, g2⟩
      · simp at hlt
      have hc1 : wr.cell? ⟨b1, o1 + k, none⟩ = some (.int .u64 (zs.getD k 0)) := by rw [hF.cell (p := ⟨b1, o1 + k, none⟩) l1]; exact g1 k hlt
      have hc2 : wr.cell? ⟨b2, o2 + k, none⟩ = some (.int .u64 (zs.getD k 0)) := by rw [hF.cell (p := ⟨b2, o2 + k, none⟩) l2]; exact g2 k hlt
      have hlt' : (k : Int) < (zs.length : Int) := by omega
      go_wp2
      go_quiet (fail)
      go_wp2
      go_roundw
      case rel => exact ⟨k + 1, by omega, by go_num, below_drewN hF _⟩
      case measure => simp [intOf]; omega
    · go_wp2
      go_ret
      exact ⟨rfl, hF⟩

/-- The numbers 1, 2, .. that a mark lays. -/
def marks (n : Nat) : List Int := (List.range n).map fun (i : Nat) => 1 + (i : Int)
theorem marks_length (n : Nat) : (marks n).length = n := by simp [marks]
theorem marks_getD (n : Nat) (i : Nat) (hi : i < n) : (marks n).getD i 0 = 1 + i := by simp [marks, hi]

def Marked (B : Nat) (w wr : World) (b n : Nat) (f : Nat → Value) (k : Nat) : Prop :=
  Below B w wr ∧ wr.rowIs b 100 n (fun j => if j < k then .int .u64 (1 + j) else f j)
theorem marked_start {B : Nat} {w : World} {b n : Nat} {f : Nat → Value} (h : w.rowIs b 100 n f) : Marked B w w b n f 0 :=
  ⟨Below.refl _ _, h.congr fun i _ => by simp⟩
theorem marked_step {B : Nat} {w wr : World} {b n : Nat} {f : Nat → Value} {k : Nat} (h : Marked B w wr b n f k) (hB : B ≤ b) : Marked B w (wr.setCell ⟨b, k, none⟩ (.int .u64 (1 + k))) b n f (k + 1) := by
  refine ⟨h.1.setCell hB _, (h.2.set k (.int .u64 (1 + k))).congr fun i _ => ?_⟩
  by_cases e : i = k
  · subst e; simp
  · by_cases e2 : i < k
    · simp [e, e2, show i < k + 1 by omega]
    · simp [e, e2, show ¬ i < k + 1 by omega]
theorem marked_end {B : Nat} {w wr : World} {b n cap : Nat} {f : Nat → Value} {m k : Nat} (h : Marked B w wr b n f k) (hB : B ≤ b) (hm : m ≤ n) (hk : ¬ k < m) : Own B wr (.slice (some ⟨b, 0, none⟩) m cap) (marks m) :=
  ⟨_, cap, by rw [marks_length], .inr ⟨b, n, _, rfl, hB, by rw [marks_length]; exact hm, h.2, fun i hi => by
    rw [marks_length] at hi
    rw [marks_getD m i hi]
    simp [show i < k by omega]⟩⟩

/-- What the marking loop keeps: below B all is as it was, but for the row at b everywhere; of the row the first k are marked. -/
def MarkRel (B : Nat) (w wr : World) (a : Option Addr) (zs : List Int) (k : Nat) : Prop :=
  Below B w wr ∧ (zs = [] ∨ ∃ b n f, a = some ⟨b, 0, none⟩ ∧ B ≤ b ∧ zs.length ≤ n ∧ Marked B w wr b n f k ∧ ∀ i, i < zs.length → f i = .int .u64 (zs.getD i 0))

theorem markUint64S_any (B : Nat) (v : Value) (zs : List Int) (w : World) (h : Own B w v zs) (hn : zs.length ≤ 1048576) :
    Calls Tryz.prog 73 #[v, .int .i64 1] w fun e w' => e = .returned (.int .i64 (1 + zs.length)) ∧ Own B w' v (marks zs.length) ∧ Below B w w' := by
  obtain ⟨a, cap, rfl, h⟩ := h
  have hn' : (zs.length : Int) ≤ 1048576 := by omega
  have hst : MarkRel B w w a zs 0 := by
    refine ⟨Below.refl _ _, ?_⟩
    rcases h with h | ⟨b, n, f, rfl, hB, hn1, hr, hf⟩
    · exact .inl h
    · exact .inr ⟨b, n, f, rfl, hB, hn1, marked_start hr, hf⟩
  clear h
  go_enter Tryz.func73, Tryz.ntmps73
  go_wp2
  go_loopw [1, 5] (fun q i wr => ∃ k : Nat, k ≤ zs.length ∧ i = .int .i64 k ∧ q = .int .i64 (1 + k) ∧ MarkRel B w wr a zs k) (fun _ i _ => zs.length - (intOf i).toNat)
  case atStart => exact ⟨0, Nat.zero_le _, rfl, rfl, hst⟩
  case round =>
    obtain ⟨k, hk, rfl, rfl, hB0, hF⟩ := hrel
    by_cases hlt : k < zs.length
    · rcases hF with rfl | ⟨b, n, f, rfl, hB, hn1, hF, hf⟩
      · simp at hlt
      have hc1 : wr.cell? ⟨b, k, none⟩ = some (if k < k then .int .u64 (1 + k) else f k) := hF.2.cell (by omega)
      rw [if_neg (Nat.lt_irrefl k), hf k hlt] at hc1
      have hf1 := hF.2.frozen k
      have hst := marked_step hF hB
      go_wp2
      go_roundw
      case rel => exact ⟨k + 1, by omega, by go_num, by go_num, hst.1, .inr ⟨b, n, f, rfl, hB, hn1, hst, hf⟩⟩
      case measure => simp [intOf]; omega
    · have hkk : k = zs.length := by omega
      go_wp2
      go_ret
      refine ⟨ret_int (by omega), ?_, hB0⟩
      rcases hF with rfl | ⟨b, n, f, rfl, hB, hn1, hF, hf⟩
      · exact ⟨a, cap, rfl, .inl rfl⟩
      · exact marked_end hF hB hn1 hlt
theorem heldUint64S_any (v : Value) (n : Nat) (w : World) (h : Sl w v (marks n)) (hn : n ≤ 1048576) :
    Calls Tryz.prog 78 #[v, .int .i64 1] w fun e w' => e = .returned (.int .i64 (1 + n)) ∧ Below w.heap.size w w' := by
  obtain ⟨a, cap, rfl, h⟩ := h
  have hn' : (n : Int) ≤ 1048576 := by omega
  rw [marks_length] at *
  go_enter Tryz.func78, Tryz.ntmps78
  go_wp2
  go_loopw [1, 5] (fun q i wr => ∃ k : Nat, k ≤ n ∧ i = .int .i64 k ∧ q = .int .i64 (1 + k) ∧ Below w.heap.size w wr) (fun _ i _ => n - (intOf i).toNat)
  case atStart => exact ⟨0, Nat.zero_le _, rfl, rfl, Below.refl _ _⟩
  case round =>
    obtain ⟨k, hk, rfl, rfl, hF⟩ := hrel
    by_cases hlt : k < n
    · rcases h with h | ⟨b, off, rfl, hl, hc⟩
      · have := congrArg List.length h
        rw [marks_length] at this
        simp at this
        omega
      have hc1 : wr.cell? ⟨b, off + k, none⟩ = some (.int .u64 (1 + k)) := by
        rw [hF.cell (p := ⟨b, off + k, none⟩) hl, hc k hlt, marks_getD n k hlt]
      clear hc
      go_wp2
      go_roundw
      case rel => exact ⟨k + 1, by omega, by go_num, by go_num, hF⟩
      case measure => simp [intOf]; omega
    · have hkk : k = n := by omega
      go_wp2
      go_ret
      exact ⟨ret_int (by omega), hF⟩
end Go.Proofs.YtmckcnmlhgpnhaaGreat
