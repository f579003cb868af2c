/- Slices of words: what is read ('Sl'), what a call has made itself ('Own'); the laws' own helpers (toUint64S, eqUint64S, markUint64S, heldUint64S) by contracts. -/
import Derived.Test.YtaapiedminakcaaGreatProg
import Derived.Test.YtaapiedminakcaaGreatKHeadA
import Derived.WalkKit
import Derived.WalkSpells
import Derived.WalkLawsBesides
import Derived.Below
import Derived.Outline
import Derived.Deep.Light
import Derived.Deep.OwnRows
import Derived.Deep.QuietTactic
import Derived.BigQuiet
import Derived.OpenShut
namespace Go.Proofs.YtaapiedminakcaaGreat
set_option maxRecDepth 20000
open Go.RowKit
set_option linter.unusedSimpArgs false

/-- A slice of words that can be read: its elements are zs. -/
def Sl (w : World) (v : Value) (zs : List Int) : Prop :=
  ∃ a cap, v = .slice a zs.length cap ∧ (zs = [] ∨ ∃ b off, a = some ⟨b, off, none⟩ ∧ b < w.heap.size ∧ ∀ i, i < zs.length → w.cell? ⟨b, off + i, none⟩ = some (.int .u64 (zs.getD i 0)))
/-- A slice of words in a block of the call's own, from number B on. -/
def Own (B : Nat) (w : World) (v : Value) (zs : List Int) : Prop :=
  ∃ a cap, v = .slice a zs.length cap ∧ (zs = [] ∨ ∃ b n f, a = some ⟨b, 0, none⟩ ∧ B ≤ b ∧ zs.length ≤ n ∧ w.rowIs b 93 n f ∧ ∀ i, i < zs.length → f i = .int .u64 (zs.getD i 0))

theorem Own.sl {B : Nat} {w : World} {v : Value} {zs : List Int} (h : Own B w v zs) : Sl w v zs := by
  obtain ⟨a, cap, rfl, h⟩ := h
  rcases h with h | ⟨b, n, f, rfl, _, hn, hr, hf⟩
  · exact ⟨_, _, rfl, .inl h⟩
  · exact ⟨_, _, rfl, .inr ⟨b, 0, rfl, hr.lt, fun i hi => by rw [Nat.zero_add, hr.cell (by omega), hf i hi]⟩⟩
theorem Sl.below {w w' : World} {v : Value} {zs : List Int} (h : Sl w v zs) (hb : Below w.heap.size w w') : Sl w' v zs := by
  obtain ⟨a, cap, rfl, h⟩ := h
  refine ⟨a, cap, rfl, ?_⟩
  rcases h with h | ⟨b, off, rfl, hl, hc⟩
  · exact .inl h
  · exact .inr ⟨b, off, rfl, Nat.lt_of_lt_of_le hl hb.size, fun i hi => by rw [hb.cell (p := ⟨b, off + i, none⟩) hl]; exact hc i hi⟩
theorem Own.block {B : Nat} {w w' : World} {v : Value} {zs : List Int} (h : Own B w v zs) (hb : ∀ k, B ≤ k → k < w.heap.size → w'.heap[k]? = w.heap[k]?) : Own B w' v zs := by
  obtain ⟨a, cap, rfl, h⟩ := h
  refine ⟨a, cap, rfl, ?_⟩
  rcases h with h | ⟨b, n, f, rfl, hB, hn, hr, hf⟩
  · exact .inl h
  · exact .inr ⟨b, n, f, rfl, hB, hn, hr.of_block (hb b hB hr.lt), hf⟩
theorem Own.below {B : Nat} {w w' : World} {v : Value} {zs : List Int} (h : Own B w v zs) (hb : Below w.heap.size w w') : Own B w' v zs := h.block fun k _ hk => hb.block k hk
theorem Own.mono {B B' : Nat} {w : World} {v : Value} {zs : List Int} (h : Own B w v zs) (hB : B' ≤ B) : Own B' w v zs := by
  obtain ⟨a, cap, rfl, h⟩ := h
  refine ⟨a, cap, rfl, ?_⟩
  rcases h with h | ⟨b, n, f, rfl, hb, r⟩
  · exact .inl h
  · exact .inr ⟨b, n, f, rfl, Nat.le_trans hB hb, r⟩

/-- What is told of a slice of integers that came in. -/
def IsRow (k : IntKind) (w : World) (a : Option Addr) (len cap : Nat) (zs : List Int) : Prop :=
  (a = none ∧ len = 0 ∧ cap = 0 ∧ zs = []) ∨
  ∃ x, a = some x ∧ len ≤ cap ∧ cap ≤ maxLen ∧ zs.length = cap ∧ (∀ i, i < zs.length → w.cell? (x.add i) = some (.int k (zs.getD i 0))) ∧ ∀ n ∈ zs, (Lit.int k n).wf = true
def Words64 (zs : List Int) : Prop := ∀ z ∈ zs, 0 ≤ z ∧ z < 18446744073709551616
theorem IsRow.sl {w : World} {a : Option Addr} {len cap : Nat} {zs : List Int} (h : IsRow .u64 w a len cap zs) : ∃ ys : List Int, ys.length = len ∧ Sl w (.slice a len cap) ys ∧ Words64 ys := by
  rcases h with ⟨rfl, rfl, rfl, rfl⟩ | ⟨x, rfl, hl, hm, hz, hc, hw⟩
  · exact ⟨[], rfl, ⟨none, 0, rfl, .inl rfl⟩, fun z hz => by simp at hz⟩
  · refine ⟨zs.take len, by simp; omega, ⟨some x, cap, by simp [show min len zs.length = len by omega], ?_⟩, fun z hz => ?_⟩
    · by_cases h0 : len = 0
      · subst h0; exact .inl (by simp)
      · obtain ⟨b, off, spot⟩ := x
        have h1 := hc 0 (by omega)
        have hspot : spot = none := by simpa [Addr.add] using World.cell?_spot h1
        subst hspot
        refine .inr ⟨b, off, rfl, ?_, fun i hi => ?_⟩
        · rw [Addr.add_lit] at h1
          exact World.block_lt_of_cell? _ _ h1
        · have hi' : i < len := by simp at hi; omega
          have := hc i (by omega)
          rw [Addr.add_lit] at this
          rw [this]
          simp [hi']
    · have := bounds_u64 (hw z (List.mem_of_mem_take hz))
      omega

theorem info27 : (Tryz.prog.info? 93).map (fun i => (i.zero, i.size, i.bytes)) = some (some (.int .u64 0), 1, 8) := by kernel_rfl

/-- What the loop of a copy into a made row keeps. -/
def Fill (w wr : World) (n : Nat) (zs : List Int) (k : Nat) : Prop :=
  Below w.heap.size w wr ∧ wr.rowIs w.heap.size 93 n (fun j => .int .u64 (if j < k then zs.getD j 0 else 0))
theorem fill_start (w : World) (n : Nat) (zs : List Int) : Fill w (w.alloc (.cells (madeCells #[.int .u64 0] n) 93)) n zs 0 :=
  ⟨(Below.refl _ _).alloc (Nat.le_refl _) _, (World.rowIs_made w (.int .u64 0) n 93).congr (fun i _ => by simp)⟩
theorem fill_step {w wr : World} {n : Nat} {zs : List Int} {k : Nat} (h : Fill w wr n zs k) : Fill w (wr.setCell ⟨w.heap.size, k, none⟩ (.int .u64 (zs.getD k 0))) n zs (k + 1) := by
  refine ⟨h.1.setCell (Nat.le_refl _) _, (h.2.set k (.int .u64 (zs.getD k 0))).congr fun i _ => ?_⟩
  by_cases e : i = k
  · subst e; simp
  · by_cases e2 : i < k
    · simp [e, e2, show i < k + 1 by omega]
    · simp [e, e2, show ¬ i < k + 1 by omega]
theorem fill_end {w wr : World} {zs : List Int} {k : Nat} (h : Fill w wr zs.length zs k) (hk : ¬ k < zs.length) : Own w.heap.size wr (.slice (some ⟨w.heap.size, 0, none⟩) zs.length zs.length) zs :=
  ⟨some ⟨w.heap.size, 0, none⟩, zs.length, rfl, .inr ⟨w.heap.size, zs.length, _, rfl, Nat.le_refl _, Nat.le_refl _, h.2, fun i hi => by simp [show i < k by omega]⟩⟩

theorem toUint64S_any (v : Value) (zs : List Int) (w : World) (hs : Sl w v zs) (hn : zs.length ≤ 1048576) :
    Calls Tryz.prog 74 #[v] w fun e w' => ∃ v', e = .returned v' ∧ Own w.heap.size w' v' zs ∧ Below w.heap.size w w' := by
  obtain ⟨a, cap, rfl, hs⟩ := hs
  have hmk := fun (n : Nat) (hb : 8 * n ≤ 281474976710656) (h63 : n ≤ 9223372036854775807) (w : World) => run_make_row' (P := Tryz.prog) 22 93 (.int .u64 0) 8 Tryz.underlying22 info27 rfl .i64 .i64 n hb h63 w
  have hm1 := hmk zs.length (by omega) (by omega)
  clear hmk
  have hn' : (zs.length : Int) ≤ 1048576 := by omega
  go_enter Tryz.func74, Tryz.ntmps74
  go_wp2
  go_loopw [4] (fun i wr => ∃ k : Nat, k ≤ zs.length ∧ i = .int .i64 k ∧ Fill w wr zs.length zs k) (fun i _ => zs.length - (intOf i).toNat)
  case atStart => exact ⟨0, Nat.zero_le _, rfl, fill_start w _ _⟩
  case round =>
    obtain ⟨k, hk, rfl, hF⟩ := hrel
    by_cases hlt : k < zs.length
    · have hc1 := hF.2.cell hlt
      have hf1 := hF.2.frozen k
      rcases hs with rfl | ⟨b, off, rfl, hbl, hcell⟩
      · simp at hlt
      · have hc2 : wr.cell? ⟨b, off + k, none⟩ = some (.int .u64 (zs.getD k 0)) := by rw [hF.1.cell (p := ⟨b, off + k, none⟩) hbl]; exact hcell k hlt
        have hst := fill_step hF
        have hg : zs[k]?.getD 0 = zs[k] := by simp [hlt]
        go_wp2
        go_roundw
        case rel => exact ⟨k + 1, by omega, by go_num, by simpa [hlt] using hst⟩
        case measure => simp [intOf]; omega
    · go_wp2
      go_ret
      exact ⟨_, rfl, fill_end hF hlt, hF.1⟩

theorem Sl.parts {w : World} {v : Value} {zs : List Int} (h : Sl w v zs) {k : Nat} (hk : k < zs.length) :
    ∃ b off cap, v = .slice (some ⟨b, off, none⟩) zs.length cap ∧ b < w.heap.size ∧ ∀ i, i < zs.length → w.cell? ⟨b, off + i, none⟩ = some (.int .u64 (zs.getD i 0)) := by
  obtain ⟨a, cap, rfl, h⟩ := h
  rcases h with rfl | ⟨b, off, rfl, hl, hc⟩
  · simp at hk
  · exact ⟨b, off, cap, rfl, hl, hc⟩
theorem Sl.head {w : World} {v : Value} {zs : List Int} (h : Sl w v zs) : ∃ a cap, v = .slice a zs.length cap := by
  obtain ⟨a, cap, rfl, _⟩ := h
  exact ⟨a, cap, rfl⟩

theorem eqUint64S_same (v1 v2 : Value) (zs : List Int) (w : World) (h1 : Sl w v1 zs) (h2 : Sl w v2 zs) (hn : zs.length ≤ 1048576) :
    Calls Tryz.prog 77 #[v1, v2] w fun e w' => e = .returned (.bool true) ∧ Below w.heap.size w w' := by
  obtain ⟨a1, c1, rfl, h1⟩ := h1
  obtain ⟨a2, c2, rfl, h2⟩ := h2
  have hn' : (zs.length : Int) ≤ 1048576 := by omega
  go_enter Tryz.func77, Tryz.ntmps77
  go_wp2
  go_loopw [5] (fun i wr => ∃ k : Nat, k ≤ zs.length ∧ i = .int .i64 k ∧ Below w.heap.size w wr) (fun i _ => zs.length - (intOf i).toNat)
  case atStart => exact ⟨0, Nat.zero_le _, rfl, Below.refl _ _⟩
  case round =>
    obtain ⟨k, hk, rfl, hF⟩ := hrel
    by_cases hlt : k < zs.length
    · rcases h1 with rfl | ⟨b1, o1, rfl, l1, g1⟩
      · simp at hlt
      rcases h2 with rfl | ⟨b2, o2, rfl, l2, g2⟩
      · simp at hlt
      have hc1 : wr.cell? ⟨b1, o1 + k, none⟩ = some (.int .u64 (zs.getD k 0)) := by rw [hF.cell (p := ⟨b1, o1 + k, none⟩) l1]; exact g1 k hlt
      have hc2 : wr.cell? ⟨b2, o2 + k, none⟩ = some (.int .u64 (zs.getD k 0)) := by rw [hF.cell (p := ⟨b2, o2 + k, none⟩) l2]; exact g2 k hlt
      have hlt' : (k : Int) < (zs.length : Int) := by omega
      go_wp2
      go_quiet (fail)
      go_wp2
      go_roundw
      case rel => exact ⟨k + 1, by omega, by go_num, below_drewN hF _⟩
      case measure => simp [intOf]; omega
    · go_wp2
      go_ret
      exact ⟨rfl, hF⟩

/-- The numbers 1, 2, .. that a mark lays. -/
def marks (n : Nat) : List Int := (List.range n).map fun (i : Nat) => 1 + (i : Int)
theorem marks_length (n : Nat) : (marks n).length = n := by simp [marks]
theorem marks_getD (n : Nat) (i : Nat) (hi : i < n) : (marks n).getD i 0 = 1 + i := by simp [marks, hi]

def Marked (B : Nat) (w wr : World) (b n : Nat) (f : Nat → Value) (k : Nat) : Prop :=
  Below B w wr ∧ wr.rowIs b 93 n (fun j => if j < k then .int .u64 (1 + j) else f j)
theorem marked_start {B : Nat} {w : World} {b n : Nat} {f : Nat → Value} (h : w.rowIs b 93 n f) : Marked B w w b n f 0 :=
  ⟨Below.refl _ _, h.congr fun i _ => by simp⟩
theorem marked_step {B : Nat} {w wr : World} {b n : Nat} {f : Nat → Value} {k : Nat} (h : Marked B w wr b n f k) (hB : B ≤ b) : Marked B w (wr.setCell ⟨b, k, none⟩ (.int .u64 (1 + k))) b n f (k + 1) := by
  refine ⟨h.1.setCell hB _, (h.2.set k (.int .u64 (1 + k))).congr fun i _ => ?_⟩
  by_cases e : i = k
  · subst e; simp
  · by_cases e2 : i < k
    · simp [e, e2, show i < k + 1 by omega]
    · simp [e, e2, show ¬ i < k + 1 by omega]
theorem marked_end {B : Nat} {w wr : World} {b n cap : Nat} {f : Nat → Value} {m k : Nat} (h : Marked B w wr b n f k) (hB : B ≤ b) (hm : m ≤ n) (hk : ¬ k < m) : Own B wr (.slice (some ⟨b, 0, none⟩) m cap) (marks m) :=
  ⟨_, cap, by rw [marks_length], .inr ⟨b, n, _, rfl, hB, by rw [marks_length]; exact hm, h.2, fun i hi => by
    rw [marks_length] at hi
    rw [marks_getD m i hi]
    simp [show i < k by omega]⟩⟩

/-- What the marking loop keeps: below B all is as it was, but for the row at b everywhere; of the row the first k are marked. -/
def MarkRel (B : Nat) (w wr : World) (a : Option Addr) (zs : List Int) (k : Nat) : Prop :=
  Below B w wr ∧ (zs = [] ∨ ∃ b n f, a = some ⟨b, 0, none⟩ ∧ B ≤ b ∧ zs.length ≤ n ∧ Marked B w wr b n f k ∧ ∀ i, i < zs.length → f i = .int .u64 (zs.getD i 0))

theorem markUint64S_any (B : Nat) (v : Value) (zs : List Int) (w : World) (h : Own B w v zs) (hn : zs.length ≤ 1048576) :
    Calls Tryz.prog 81 #[v, .int .i64 1] w fun e w' => e = .returned (.int .i64 (1 + zs.length)) ∧ Own B w' v (marks zs.length) ∧ Below B w w' := by
  obtain ⟨a, cap, rfl, h⟩ := h
  have hn' : (zs.length : Int) ≤ 1048576 := by omega
  have hst : MarkRel B w w a zs 0 := by
    refine ⟨Below.refl _ _, ?_⟩
    rcases h with h | ⟨b, n, f, rfl, hB, hn1, hr, hf⟩
    · exact .inl h
    · exact .inr ⟨b, n, f, rfl, hB, hn1, marked_start hr, hf⟩
  clear h
  go_enter Tryz.func81, Tryz.ntmps81
  go_wp2
  go_loopw [1, 5] (fun q i wr => ∃ k : Nat, k ≤ zs.length ∧ i = .int .i64 k ∧ q = .int .i64 (1 + k) ∧ MarkRel B w wr a zs k) (fun _ i _ => zs.length - (intOf i).toNat)
  case atStart => exact ⟨0, Nat.zero_le _, rfl, rfl, hst⟩
  case round =>
    obtain ⟨k, hk, rfl, rfl, hB0, hF⟩ := hrel
    by_cases hlt : k < zs.length
    · rcases hF with rfl | ⟨b, n, f, rfl, hB, hn1, hF, hf⟩
      · simp at hlt
      have hc1 : wr.cell? ⟨b, k, none⟩ = some (if k < k then .int .u64 (1 + k) else f k) := hF.2.cell (by omega)
      rw [if_neg (Nat.lt_irrefl k), hf k hlt] at hc1
      have hf1 := hF.2.frozen k
      have hst := marked_step hF hB
      go_wp2
      go_roundw
      case rel => exact ⟨k + 1, by omega, by go_num, by go_num, hst.1, .inr ⟨b, n, f, rfl, hB, hn1, hst, hf⟩⟩
      case measure => simp [intOf]; omega
    · have hkk : k = zs.length := by omega
      go_wp2
      go_ret
      refine ⟨ret_int (by omega), ?_, hB0⟩
      rcases hF with rfl | ⟨b, n, f, rfl, hB, hn1, hF, hf⟩
      · exact ⟨a, cap, rfl, .inl rfl⟩
      · exact marked_end hF hB hn1 hlt
theorem heldUint64S_any (v : Value) (n : Nat) (w : World) (h : Sl w v (marks n)) (hn : n ≤ 1048576) :
    Calls Tryz.prog 94 #[v, .int .i64 1] w fun e w' => e = .returned (.int .i64 (1 + n)) ∧ Below w.heap.size w w' := by
  obtain ⟨a, cap, rfl, h⟩ := h
  have hn' : (n : Int) ≤ 1048576 := by omega
  rw [marks_length] at *
  go_enter Tryz.func94, Tryz.ntmps94
  go_wp2
  go_loopw [1, 5] (fun q i wr => ∃ k : Nat, k ≤ n ∧ i = .int .i64 k ∧ q = .int .i64 (1 + k) ∧ Below w.heap.size w wr) (fun _ i _ => n - (intOf i).toNat)
  case atStart => exact ⟨0, Nat.zero_le _, rfl, rfl, Below.refl _ _⟩
  case round =>
    obtain ⟨k, hk, rfl, rfl, hF⟩ := hrel
    by_cases hlt : k < n
    · rcases h with h | ⟨b, off, rfl, hl, hc⟩
      · have := congrArg List.length h
        rw [marks_length] at this
        simp at this
        omega
      have hc1 : wr.cell? ⟨b, off + k, none⟩ = some (.int .u64 (1 + k)) := by
        rw [hF.cell (p := ⟨b, off + k, none⟩) hl, hc k hlt, marks_getD n k hlt]
      clear hc
      go_wp2
      go_roundw
      case rel => exact ⟨k + 1, by omega, by go_num, by go_num, hF⟩
      case measure => simp [intOf]; omega
    · have hkk : k = n := by omega
      go_wp2
      go_ret
      exact ⟨ret_int (by omega), hF⟩
end Go.Proofs.YtaapiedminakcaaGreat
