/- Heads read: both packages' ReadHead give the same plain answer. -/
import Derived.Test.YtlacfinfmbapaaaProg
import Derived.Test.YtlacfinfmbapaaaPackA
import Derived.WalkKit
import Derived.WalkSpells
import Derived.WalkLawsBesides
import Derived.Below
import Derived.Outline
import Derived.Deep.Light
namespace Go.Proofs.Ytlacfinfmbapaaa
open Go.RowKit
set_option linter.unusedSimpArgs false

theorem implReadHead_yes (x : Int) (w : World) (h0 : 0 ≤ x) (h1 : x < 18446744073709551616) (h : hOk (x % 16) (x / 16 % 65536) (x / 1048576) = true) :
    Calls Try.prog 17 #[.int .u64 x] w fun e w' => e = .returned (.tuple #[.agg #[.int .i64 (x % 16), .int .i64 (x / 16 % 65536), .int .i64 (x / 1048576)], .bool true]) ∧ Below w.heap.size w w' := by
  have e1 := and15 x h0 h1
  have e2 := and16 (x / 16) (by omega) (by omega)
  have e3 : x / 16 / 65536 = x / 1048576 := by omega
  go_enter Try.func17, Try.ntmps17
  go_wp2_with (go_at_call 27; refine (implHeadOk_any _ _ _ _).mono ?_; rintro e w' ⟨rfl, hb⟩; obtain ⟨hc, hf⟩ := bcell hb; first | (have hz := size_first hb; have hB := below_first hb) | (have hz := Nat.lt_of_lt_of_le (by assumption) hb.size; have hB := below_next (w := w) (by assumption) hb))
  have q0 : (w'.cell? ⟨w.heap.size, 0, none⟩).isSome = true := by rw [hc _ _ (by simp; omega)]; simp [go_sem]
  have q1 : (w'.cell? ⟨w.heap.size, 1, none⟩).isSome = true := by rw [hc _ _ (by simp; omega)]; simp [go_sem]
  have q2 : (w'.cell? ⟨w.heap.size, 2, none⟩).isSome = true := by rw [hc _ _ (by simp; omega)]; simp [go_sem]
  refine bodyPost_ret (v := .tuple #[.agg #[.int .i64 (x % 16), .int .i64 (x / 16 % 65536), .int .i64 (x / 1048576)], .bool true]) (by simp [results, Try.results17, go_sem, q0, q1, q2]) rfl ⟨rfl, ?_⟩
  exact (((below_first hB).setCell (by simp) _).setCell (by simp) _).setCell (by simp) _
theorem specReadHead_yes (x : Int) (w : World) (h0 : 0 ≤ x) (h1 : x < 18446744073709551616) (h : hOk (x % 16) (x / 16 % 65536) (x / 1048576) = true) :
    Calls Try.prog 20 #[.int .u64 x] w fun e w' => e = .returned (.tuple #[.agg #[.int .i64 (x % 16), .int .i64 (x / 16 % 65536), .int .i64 (x / 1048576)], .bool true]) ∧ Below w.heap.size w w' := by
  have e1 := and15 x h0 h1
  have e2 := and16 (x / 16) (by omega) (by omega)
  have e3 := and32 (x / 1048576) (by omega) (by omega)
  have hbd := hOk_bounds h
  have e4 : x / 1048576 % 4294967296 = x / 1048576 := by omega
  clear hbd
  rw [e4] at e3
  clear e4
  have e5 : x % 16 + x / 16 % 65536 * 16 + x / 1048576 * 1048576 = x := by omega
  go_enter Try.func20, Try.ntmps20
  go_wp2_with (go_at_call 28; refine (specPackHead_yes _ _ _ _ h).mono ?_; rintro e w' ⟨rfl, hb⟩; obtain ⟨hc, hf⟩ := bcell hb; first | (have hz := size_first hb; have hB := below_first hb) | (have hz := Nat.lt_of_lt_of_le (by assumption) hb.size; have hB := below_next (w := w) (by assumption) hb))
  have q0 : (w'.cell? ⟨w.heap.size, 0, none⟩).isSome = true := by rw [hc _ _ (by simp; omega)]; simp [go_sem]
  have q1 : (w'.cell? ⟨w.heap.size, 1, none⟩).isSome = true := by rw [hc _ _ (by simp; omega)]; simp [go_sem]
  have q2 : (w'.cell? ⟨w.heap.size, 2, none⟩).isSome = true := by rw [hc _ _ (by simp; omega)]; simp [go_sem]
  refine bodyPost_ret (v := .tuple #[.agg #[.int .i64 (x % 16), .int .i64 (x / 16 % 65536), .int .i64 (x / 1048576)], .bool true]) (by simp [results, Try.results20, go_sem, q0, q1, q2]) rfl ⟨rfl, ?_⟩
  exact (((below_first hB).setCell (by simp) _).setCell (by simp) _).setCell (by simp) _
theorem implReadHead_no (x : Int) (w : World) (h0 : 0 ≤ x) (h1 : x < 18446744073709551616) (h : hOk (x % 16) (x / 16 % 65536) (x / 1048576) = false) :
    Calls Try.prog 17 #[.int .u64 x] w fun e w' => e = .returned (.tuple #[.agg #[.int .i64 0, .int .i64 0, .int .i64 0], .bool false]) ∧ Below w.heap.size w w' := by
  have e1 := and15 x h0 h1
  have e2 := and16 (x / 16) (by omega) (by omega)
  have e3 : x / 16 / 65536 = x / 1048576 := by omega
  go_enter Try.func17, Try.ntmps17
  go_wp2_with (go_at_call 27; refine (implHeadOk_any _ _ _ _).mono ?_; rintro e w' ⟨rfl, hb⟩; obtain ⟨hc, hf⟩ := bcell hb; first | (have hz := size_first hb; have hB := below_first hb) | (have hz := Nat.lt_of_lt_of_le (by assumption) hb.size; have hB := below_next (w := w) (by assumption) hb))
  have q0 : (w'.cell? ⟨w.heap.size, 0, none⟩).isSome = true := by rw [hc _ _ (by simp; omega)]; simp [go_sem]
  have q1 : (w'.cell? ⟨w.heap.size, 1, none⟩).isSome = true := by rw [hc _ _ (by simp; omega)]; simp [go_sem]
  have q2 : (w'.cell? ⟨w.heap.size, 2, none⟩).isSome = true := by rw [hc _ _ (by simp; omega)]; simp [go_sem]
  refine bodyPost_ret (v := .tuple #[.agg #[.int .i64 0, .int .i64 0, .int .i64 0], .bool false]) (by simp [results, Try.results17, go_sem, q0, q1, q2]) rfl ⟨rfl, ?_⟩
  exact (((below_first hB).setCell (by simp) _).setCell (by simp) _).setCell (by simp) _
theorem specReadHead_no (x : Int) (w : World) (h0 : 0 ≤ x) (h1 : x < 18446744073709551616) (h : hOk (x % 16) (x / 16 % 65536) (x / 1048576) = false) :
    Calls Try.prog 20 #[.int .u64 x] w fun e w' => e = .returned (.tuple #[.agg #[.int .i64 0, .int .i64 0, .int .i64 0], .bool false]) ∧ Below w.heap.size w w' := by
  have e1 := and15 x h0 h1
  have e2 := and16 (x / 16) (by omega) (by omega)
  have e3 := and32 (x / 1048576) (by omega) (by omega)
  by_cases g : hOk (x % 16) (x / 16 % 65536) (x / 1048576 % 4294967296) = true
  · have hn : ¬ x / 1048576 % 4294967296 = x / 1048576 := by
      intro e
      rw [e, h] at g
      exact absurd g (by decide)
    have e5 : (x % 16 + x / 16 % 65536 * 16 + x / 1048576 % 4294967296 * 1048576 == x) = false := by
      rw [beq_eq_false_iff_ne]
      omega
    clear hn h
    go_enter Try.func20, Try.ntmps20
    go_wp2_with (go_at_call 28; refine (specPackHead_yes _ _ _ _ g).mono ?_; rintro e w' ⟨rfl, hb⟩; obtain ⟨hc, hf⟩ := bcell hb; first | (have hz := size_first hb; have hB := below_first hb) | (have hz := Nat.lt_of_lt_of_le (by assumption) hb.size; have hB := below_next (w := w) (by assumption) hb))
    have q0 : (w'.cell? ⟨w.heap.size, 0, none⟩).isSome = true := by rw [hc _ _ (by simp; omega)]; simp [go_sem]
    have q1 : (w'.cell? ⟨w.heap.size, 1, none⟩).isSome = true := by rw [hc _ _ (by simp; omega)]; simp [go_sem]
    have q2 : (w'.cell? ⟨w.heap.size, 2, none⟩).isSome = true := by rw [hc _ _ (by simp; omega)]; simp [go_sem]
    refine bodyPost_ret (v := .tuple #[.agg #[.int .i64 0, .int .i64 0, .int .i64 0], .bool false]) (by simp [results, Try.results20, go_sem, q0, q1, q2]) rfl ⟨rfl, ?_⟩
    exact (((below_first hB).setCell (by simp) _).setCell (by simp) _).setCell (by simp) _
  · rw [Bool.not_eq_true] at g
    clear h
    go_enter Try.func20, Try.ntmps20
    go_wp2_with (go_at_call 28; refine (specPackHead_no _ _ _ _ g).mono ?_; rintro e w' ⟨rfl, hb⟩; obtain ⟨hc, hf⟩ := bcell hb; first | (have hz := size_first hb; have hB := below_first hb) | (have hz := Nat.lt_of_lt_of_le (by assumption) hb.size; have hB := below_next (w := w) (by assumption) hb))
    have q0 : (w'.cell? ⟨w.heap.size, 0, none⟩).isSome = true := by rw [hc _ _ (by simp; omega)]; simp [go_sem]
    have q1 : (w'.cell? ⟨w.heap.size, 1, none⟩).isSome = true := by rw [hc _ _ (by simp; omega)]; simp [go_sem]
    have q2 : (w'.cell? ⟨w.heap.size, 2, none⟩).isSome = true := by rw [hc _ _ (by simp; omega)]; simp [go_sem]
    refine bodyPost_ret (v := .tuple #[.agg #[.int .i64 0, .int .i64 0, .int .i64 0], .bool false]) (by simp [results, Try.results20, go_sem, q0, q1, q2]) rfl ⟨rfl, ?_⟩
    exact (((below_first hB).setCell (by simp) _).setCell (by simp) _).setCell (by simp) _

theorem eqHead_same (k s n : Int) (w : World) :
    Calls Try.prog 29 #[.agg #[.int .i64 k, .int .i64 s, .int .i64 n], .agg #[.int .i64 k, .int .i64 s, .int .i64 n]] w fun e w' => e = .returned (.bool true) ∧ Below w.heap.size w w' := by
  go_enter Try.func29, Try.ntmps29
  go_wp2
  go_ret
  exact ⟨rfl, ((Below.refl _ _).alloc (Nat.le_refl _) _).alloc (by simp) _⟩
end Go.Proofs.Ytlacfinfmbapaaa
