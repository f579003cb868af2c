/- Rows of the call's own within a range of blocks, and what a mark laid into one of them leaves alone. -/
import Derived.Test.YthoncomjemknnaaProg
import Derived.Test.YthoncomjemknnaaPutA
import Derived.Test.YthoncomjemknnaaOutA
import Derived.WalkKit
import Derived.WalkSpells
import Derived.WalkLawsBesides
import Derived.Below
import Derived.Outline
import Derived.Deep.Light
namespace Go.Proofs.Ythoncomjemknnaa
set_option maxRecDepth 20000
open Go.RowKit
set_option linter.unusedSimpArgs false
set_option linter.unusedVariables false

/-- As 'Sl', the block below T. -/
def SlT (T : Nat) (w : World) (v : Value) (zs : List Int) : Prop :=
  ∃ a cap, v = .slice a zs.length cap ∧ (zs = [] ∨ ∃ b off, a = some ⟨b, off, none⟩ ∧ b < T ∧ b < w.heap.size ∧ ∀ i, i < zs.length → w.cell? ⟨b, off + i, none⟩ = some (.int .u64 (zs.getD i 0)))
theorem Sl.t {w : World} {v : Value} {zs : List Int} (h : Sl w v zs) : SlT w.heap.size w v zs := by
  obtain ⟨a, cap, rfl, h⟩ := h
  refine ⟨a, cap, rfl, ?_⟩
  rcases h with h | ⟨b, off, rfl, hl, hc⟩
  · exact .inl h
  · exact .inr ⟨b, off, rfl, hl, hl, hc⟩
theorem SlT.sl {T : Nat} {w : World} {v : Value} {zs : List Int} (h : SlT T w v zs) : Sl w v zs := by
  obtain ⟨a, cap, rfl, h⟩ := h
  refine ⟨a, cap, rfl, ?_⟩
  rcases h with h | ⟨b, off, rfl, _, hl, hc⟩
  · exact .inl h
  · exact .inr ⟨b, off, rfl, hl, hc⟩
theorem SlT.below {T B : Nat} {w w' : World} {v : Value} {zs : List Int} (h : SlT T w v zs) (hb : Below B w w') (hT : T ≤ B) : SlT T w' v zs := by
  obtain ⟨a, cap, rfl, h⟩ := h
  refine ⟨a, cap, rfl, ?_⟩
  rcases h with h | ⟨b, off, rfl, hl, hz, hc⟩
  · exact .inl h
  · exact .inr ⟨b, off, rfl, hl, Nat.lt_of_lt_of_le hz hb.size, fun i hi => by rw [hb.cell (p := ⟨b, off + i, none⟩) (Nat.lt_of_lt_of_le hl hT)]; exact hc i hi⟩
/-- As 'Own', the block from B on and below T. -/
def OwnIn (B T : Nat) (w : World) (v : Value) (zs : List Int) : Prop :=
  ∃ a cap, v = .slice a zs.length cap ∧ (zs = [] ∨ ∃ b n f, a = some ⟨b, 0, none⟩ ∧ B ≤ b ∧ b < T ∧ zs.length ≤ n ∧ w.rowIs b 31 n f ∧ ∀ i, i < zs.length → f i = .int .u64 (zs.getD i 0))
theorem Own.within {B : Nat} {w : World} {v : Value} {zs : List Int} (h : Own B w v zs) : OwnIn B w.heap.size w v zs := by
  obtain ⟨a, cap, rfl, h⟩ := h
  refine ⟨a, cap, rfl, ?_⟩
  rcases h with h | ⟨b, n, f, rfl, hB, hn, hr, hf⟩
  · exact .inl h
  · exact .inr ⟨b, n, f, rfl, hB, hr.lt, hn, hr, hf⟩
theorem OwnIn.own {B T : Nat} {w : World} {v : Value} {zs : List Int} (h : OwnIn B T w v zs) : Own B w v zs := by
  obtain ⟨a, cap, rfl, h⟩ := h
  refine ⟨a, cap, rfl, ?_⟩
  rcases h with h | ⟨b, n, f, rfl, hB, _, hn, hr, hf⟩
  · exact .inl h
  · exact .inr ⟨b, n, f, rfl, hB, hn, hr, hf⟩
theorem OwnIn.block {B T : Nat} {w w' : World} {v : Value} {zs : List Int} (h : OwnIn B T w v zs) (hb : ∀ k, B ≤ k → k < T → w'.heap[k]? = w.heap[k]?) : OwnIn B T w' v zs := by
  obtain ⟨a, cap, rfl, h⟩ := h
  refine ⟨a, cap, rfl, ?_⟩
  rcases h with h | ⟨b, n, f, rfl, hB, hT, hn, hr, hf⟩
  · exact .inl h
  · exact .inr ⟨b, n, f, rfl, hB, hT, hn, hr.of_block (hb b hB hT), hf⟩
theorem OwnIn.below {B T C : Nat} {w w' : World} {v : Value} {zs : List Int} (h : OwnIn B T w v zs) (hb : Below C w w') (hT : T ≤ C) : OwnIn B T w' v zs :=
  h.block fun k _ hk => hb.block k (Nat.lt_of_lt_of_le hk hT)

theorem OwnIn.outside {B T C U : Nat} {w w' : World} {v : Value} {zs : List Int} (h : OwnIn B T w v zs) (hb : Outside C U w w') (hU : U ≤ B) : OwnIn B T w' v zs :=
  h.block fun k hk _ => hb.block k (.inr (Nat.le_trans hU hk))

def Marked2 (B T : Nat) (w wr : World) (b n : Nat) (f : Nat → Value) (k : Nat) : Prop :=
  Outside B T w wr ∧ wr.rowIs b 31 n (fun j => if j < k then .int .u64 (1 + j) else f j)
theorem marked2_step {B T : Nat} {w wr : World} {b n : Nat} {f : Nat → Value} {k : Nat} (h : Marked2 B T w wr b n f k) (hB : B ≤ b) (hT : b < T) : Marked2 B T w (wr.setCell ⟨b, k, none⟩ (.int .u64 (1 + k))) b n f (k + 1) := by
  refine ⟨h.1.setCell hB hT _, (h.2.set k (.int .u64 (1 + k))).congr fun i _ => ?_⟩
  by_cases e : i = k
  · subst e; simp
  · by_cases e2 : i < k
    · simp [e, e2, show i < k + 1 by omega]
    · simp [e, e2, show ¬ i < k + 1 by omega]
theorem marked2_end {B T : Nat} {w wr : World} {b n cap : Nat} {f : Nat → Value} {m k : Nat} (h : Marked2 B T w wr b n f k) (hB : B ≤ b) (hT : b < T) (hm : m ≤ n) (hk : ¬ k < m) : OwnIn B T wr (.slice (some ⟨b, 0, none⟩) m cap) (marks m) :=
  ⟨_, cap, by rw [marks_length], .inr ⟨b, n, _, rfl, hB, hT, by rw [marks_length]; exact hm, h.2, fun i hi => by
    rw [marks_length] at hi
    rw [marks_getD m i hi]
    simp [show i < k by omega]⟩⟩
def MarkRel2 (B T : Nat) (w wr : World) (a : Option Addr) (zs : List Int) (k : Nat) : Prop :=
  Outside B T w wr ∧ (zs = [] ∨ ∃ b n f, a = some ⟨b, 0, none⟩ ∧ B ≤ b ∧ b < T ∧ zs.length ≤ n ∧ Marked2 B T w wr b n f k ∧ ∀ i, i < zs.length → f i = .int .u64 (zs.getD i 0))

theorem mark2_any (B T : Nat) (v : Value) (zs : List Int) (w : World) (h : OwnIn B T w v zs) (hn : zs.length ≤ 1048576) :
    Calls Try.prog 14 #[v, .int .i64 1] w fun e w' => e = .returned (.int .i64 (1 + zs.length)) ∧ OwnIn B T w' v (marks zs.length) ∧ Outside B T w w' := by
  obtain ⟨a, cap, rfl, h⟩ := h
  have hn' : (zs.length : Int) ≤ 1048576 := by omega
  have hst : MarkRel2 B T w w a zs 0 := by
    refine ⟨Outside.refl _ _ _, ?_⟩
    rcases h with h | ⟨b, n, f, rfl, hB, hT, hn1, hr, hf⟩
    · exact .inl h
    · exact .inr ⟨b, n, f, rfl, hB, hT, hn1, ⟨Outside.refl _ _ _, hr.congr fun i _ => by simp⟩, hf⟩
  clear h
  go_enter Try.func14, Try.ntmps14
  go_wp2
  go_loopw [1, 5] (fun q i wr => ∃ k : Nat, k ≤ zs.length ∧ i = .int .i64 k ∧ q = .int .i64 (1 + k) ∧ MarkRel2 B T w wr a zs k) (fun _ i _ => zs.length - (intOf i).toNat)
  case atStart => exact ⟨0, Nat.zero_le _, rfl, rfl, hst⟩
  case round =>
    obtain ⟨k, hk, rfl, rfl, hB0, hF⟩ := hrel
    by_cases hlt : k < zs.length
    · rcases hF with rfl | ⟨b, n, f, rfl, hB, hT, hn1, hF, hf⟩
      · simp at hlt
      have hc1 : wr.cell? ⟨b, k, none⟩ = some (if k < k then .int .u64 (1 + k) else f k) := hF.2.cell (by omega)
      rw [if_neg (Nat.lt_irrefl k), hf k hlt] at hc1
      have hf1 := hF.2.frozen k
      have hst := marked2_step hF hB hT
      go_wp2
      go_roundw
      case rel => exact ⟨k + 1, by omega, by go_num, by go_num, hst.1, .inr ⟨b, n, f, rfl, hB, hT, hn1, hst, hf⟩⟩
      case measure => simp [intOf]; omega
    · have hkk : k = zs.length := by omega
      go_wp2
      go_ret
      refine ⟨ret_int (by omega), ?_, hB0⟩
      rcases hF with rfl | ⟨b, n, f, rfl, hB, hT, hn1, hF, hf⟩
      · exact ⟨a, cap, rfl, .inl rfl⟩
      · exact marked2_end hF hB hT hn1 hlt
end Go.Proofs.Ythoncomjemknnaa
