/- Heads packed and read, forwarded words: both packages' functions give the same plain answers. -/
import Derived.Test.YthoncomjemknnaaProg
import Derived.Test.YthoncomjemknnaaHeadA
import Derived.WalkKit
import Derived.WalkSpells
import Derived.WalkLawsBesides
import Derived.Below
import Derived.Outline
import Derived.Deep.Light
import Derived.Laws.BitsAllLaws
namespace Go.Proofs.Ythoncomjemknnaa
set_option maxRecDepth 20000
open Go.RowKit
set_option linter.unusedSimpArgs false

theorem hOk_bounds {k s n : Int} (h : hOk k s n = true) : 1 ≤ k ∧ k ≤ 6 ∧ 1 ≤ s ∧ s ≤ 256 ∧ 0 ≤ n ∧ n ≤ 1000000000 := by
  rw [hOk_iff] at h
  unfold HOk at h
  rcases h with h | h | h | h | h | h <;> omega

theorem ret_two {k : IntKind} {a b : Int} {x y : Bool} (h : a = b) (h' : x = y) : Ending.returned (.tuple #[.int k a, .bool x]) = .returned (.tuple #[.int k b, .bool y]) := by rw [h, h']

theorem and_low (x : Int) (i : Nat) (h0 : 0 ≤ x) (h1 : x < 18446744073709551616) (hi : i ≤ 64) : bits .and .u64 x ((2 ^ i - 1 : Nat) : Int) = x % ((2 ^ i : Nat) : Int) := by
  have hp : 2 ^ i ≤ 2 ^ 64 := Nat.pow_le_pow_right (by omega) hi
  have hq : 0 < 2 ^ i := Nat.two_pow_pos i
  rw [u64_and x _ h0 h1 (by omega) (by omega)]
  obtain ⟨n, rfl⟩ := Int.eq_ofNat_of_zero_le h0
  simp only [Int.toNat_natCast, Nat.and_two_pow_sub_one_eq_mod]
  omega
theorem and15 (x : Int) (h0 : 0 ≤ x) (h1 : x < 18446744073709551616) : bits .and .u64 x 15 = x % 16 := and_low x 4 h0 h1 (by omega)
theorem and16 (x : Int) (h0 : 0 ≤ x) (h1 : x < 18446744073709551616) : bits .and .u64 x 65535 = x % 65536 := and_low x 16 h0 h1 (by omega)
theorem and32 (x : Int) (h0 : 0 ≤ x) (h1 : x < 18446744073709551616) : bits .and .u64 x 4294967295 = x % 4294967296 := and_low x 32 h0 h1 (by omega)
theorem and63 (x : Int) (h0 : 0 ≤ x) (h1 : x < 18446744073709551616) : bits .and .u64 x 9223372036854775807 = x % 9223372036854775808 := and_low x 63 h0 h1 (by omega)
theorem nat_top_lo (n : Nat) (h : n < 9223372036854775808) : n &&& 9223372036854775808 = 0 := by
  apply Nat.eq_of_testBit_eq
  intro i
  rw [Nat.testBit_and, show (9223372036854775808 : Nat) = 2 ^ 63 from rfl, Nat.testBit_two_pow]
  by_cases e : 63 = i
  · subst e
    have : n.testBit 63 = false := Nat.testBit_lt_two_pow (by omega)
    simp [this]
  · simp [e]
theorem nat_top_hi (n : Nat) (h : 9223372036854775808 ≤ n) (h' : n < 18446744073709551616) : n &&& 9223372036854775808 = 9223372036854775808 := by
  apply Nat.eq_of_testBit_eq
  intro i
  rw [Nat.testBit_and, show (9223372036854775808 : Nat) = 2 ^ 63 from rfl, Nat.testBit_two_pow]
  by_cases e : 63 = i
  · subst e
    have : n.testBit 63 = true := by rw [Nat.testBit_eq_decide_div_mod_eq]; simp; omega
    simp [this]
  · simp [e]
theorem top_lo (x : Int) (h0 : 0 ≤ x) (h : x < 9223372036854775808) : bits .and .u64 x 9223372036854775808 = 0 := by
  rw [u64_and x _ h0 (by omega) (by omega) (by omega)]
  have := nat_top_lo x.toNat (by omega)
  simpa using this
theorem top_hi (x : Int) (h : 9223372036854775808 ≤ x) (h1 : x < 18446744073709551616) : bits .and .u64 x 9223372036854775808 = 9223372036854775808 := by
  rw [u64_and x _ (by omega) h1 (by omega) (by omega)]
  have := nat_top_hi x.toNat (by omega) (by omega)
  simpa using congrArg (fun n : Nat => (n : Int)) this
theorem top_not (x : Int) (h0 : 0 ≤ x) (h1 : x < 18446744073709551616) : bits .andNot .u64 x 9223372036854775808 = x % 9223372036854775808 := by
  rw [u64_andNot x _ h0 h1 (by omega) (by omega), ← and63 x h0 h1, u64_and x _ h0 h1 (by omega) (by omega)]
  rfl
theorem or_join (a b : Int) (i : Nat) (ha : 0 ≤ a) (ha' : a < 18446744073709551616) (hb : 0 ≤ b) (hi : i ≤ 63) (h : a % ((2 ^ i : Nat) : Int) = 0) (hb' : b < ((2 ^ i : Nat) : Int)) : bits .or .u64 a b = a + b := by
  have hp : 2 ^ i ≤ 2 ^ 63 := Nat.pow_le_pow_right (by omega) hi
  rw [u64_or a b ha ha' hb (by omega)]
  obtain ⟨n, rfl⟩ := Int.eq_ofNat_of_zero_le ha
  obtain ⟨m, rfl⟩ := Int.eq_ofNat_of_zero_le hb
  simp only [Int.toNat_natCast]
  rw [nat_join i n m (by omega) (by omega)]
  omega

end Go.Proofs.Ythoncomjemknnaa
