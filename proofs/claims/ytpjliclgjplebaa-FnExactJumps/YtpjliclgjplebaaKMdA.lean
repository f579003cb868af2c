/- Protos of a module by their cells: rows of four cells, the last two of which lead to rows of pairs. The laws' helpers that measure. -/
import Derived.Test.YtpjliclgjplebaaProg
import Derived.Test.YtpjliclgjplebaaKRowF
import Derived.Test.YtpjliclgjplebaaKSliceA
import Derived.WalkKit
import Derived.WalkSpells
import Derived.WalkLawsBesides
import Derived.Below
import Derived.Outline
import Derived.Deep.Light
namespace Go.Proofs.Ytpjliclgjplebaa
set_option maxRecDepth 20000
open Go.RowKit
set_option linter.unusedSimpArgs false
set_option linter.unusedVariables false

/-- A row of pairs: a Boolean and a number; two numbers. -/
def upF (p : Nat → Bool) (q : Nat → Int) : Nat → Value := fun j => if j % 2 = 0 then .bool (p (j / 2)) else .int .i64 (q (j / 2))
def inF (p q : Nat → Int) : Nat → Value := fun j => if j % 2 = 0 then .int .i64 (p (j / 2)) else .int .i64 (q (j / 2))
theorem upF_a (p : Nat → Bool) (q : Nat → Int) (k : Nat) : upF p q (k * 2) = .bool (p k) := by
  unfold upF
  rw [if_pos (by omega), Nat.mul_div_cancel k (by omega : 0 < 2)]
theorem upF_b (p : Nat → Bool) (q : Nat → Int) (k : Nat) : upF p q (k * 2 + 1) = .int .i64 (q k) := by
  unfold upF
  rw [if_neg (by omega), show (k * 2 + 1) / 2 = k by omega]
theorem inF_a (p q : Nat → Int) (k : Nat) : inF p q (k * 2) = .int .i64 (p k) := by
  unfold inF
  rw [if_pos (by omega), Nat.mul_div_cancel k (by omega : 0 < 2)]
theorem inF_b (p q : Nat → Int) (k : Nat) : inF p q (k * 2 + 1) = .int .i64 (q k) := by
  unfold inF
  rw [if_neg (by omega), show (k * 2 + 1) / 2 = k by omega]
/-- A Proto: its two numbers, its Ups and its Code. -/
structure PtD where
  pa : Int
  sl : Int
  un : Nat
  ub : Nat → Bool
  ui : Nat → Int
  cn : Nat
  co : Nat → Int
  ca : Nat → Int
/-- The Proto x stands in the four cells from o on. -/
def PtAt (T : Nat) (w : World) (b o : Nat) (x : PtD) : Prop :=
  ∃ a c a' c', w.cell? ⟨b, o, none⟩ = some (.int .i64 x.pa) ∧ w.cell? ⟨b, o + 1, none⟩ = some (.int .i64 x.sl) ∧ w.cell? ⟨b, o + 2, none⟩ = some (.slice a x.un c) ∧ w.cell? ⟨b, o + 3, none⟩ = some (.slice a' x.cn c') ∧ SlF T w (.slice a x.un c) x.un (2 * x.un) (upF x.ub x.ui) ∧ SlF T w (.slice a' x.cn c') x.cn (2 * x.cn) (inF x.co x.ca)
/-- A slice of L Protos that can be read. -/
def PtF (T : Nat) (w : World) (v : Value) (L : Nat) (X : Nat → PtD) : Prop :=
  ∃ a cap, v = .slice a L cap ∧ (L = 0 ∨ ∃ b off, a = some ⟨b, off, none⟩ ∧ b < T ∧ b < w.heap.size ∧ ∀ i, i < L → PtAt T w b (off + i * 4) (X i))
/-- A slice of n texts that can be read. -/
def TxF (T : Nat) (w : World) (v : Value) (n : Nat) (s : Nat → ByteArray) : Prop := SlF T w v n n (fun i => .string (s i))
theorem TxF.below {T C : Nat} {w w' : World} {v : Value} {n : Nat} {s : Nat → ByteArray} (h : TxF T w v n s) (hb : Below C w w') (hT : T ≤ C) : TxF T w' v n s := SlF.below h hb hT
theorem TxF.mono {T T' : Nat} {w : World} {v : Value} {n : Nat} {s : Nat → ByteArray} (h : TxF T w v n s) (hT : T ≤ T') : TxF T' w v n s := SlF.mono h hT
theorem PtAt.below {T C : Nat} {w w' : World} {b o : Nat} {x : PtD} (h : PtAt T w b o x) (hb : Below C w w') (hT : T ≤ C) (hl : b < T) : PtAt T w' b o x := by
  obtain ⟨a, c, a', c', h0, h1, h2, h3, h4, h5⟩ := h
  have e := fun i => hb.cell (p := ⟨b, i, none⟩) (Nat.lt_of_lt_of_le hl hT)
  exact ⟨a, c, a', c', by rw [e]; exact h0, by rw [e]; exact h1, by rw [e]; exact h2, by rw [e]; exact h3, h4.below hb hT, h5.below hb hT⟩
theorem PtF.below {T C : Nat} {w w' : World} {v : Value} {L : Nat} {X : Nat → PtD} (h : PtF T w v L X) (hb : Below C w w') (hT : T ≤ C) : PtF T w' v L X := by
  obtain ⟨a, cap, rfl, h⟩ := h
  refine ⟨a, cap, rfl, ?_⟩
  rcases h with h | ⟨b, off, rfl, hl, hz, hc⟩
  · exact .inl h
  · exact .inr ⟨b, off, rfl, hl, Nat.lt_of_lt_of_le hz hb.size, fun i hi => (hc i hi).below hb hT hl⟩
theorem PtF.mono {T T' : Nat} {w : World} {v : Value} {L : Nat} {X : Nat → PtD} (h : PtF T w v L X) (hT : T ≤ T') : PtF T' w v L X := by
  obtain ⟨a, cap, rfl, h⟩ := h
  refine ⟨a, cap, rfl, ?_⟩
  rcases h with h | ⟨b, off, rfl, hl, hz, hc⟩
  · exact .inl h
  · refine .inr ⟨b, off, rfl, Nat.lt_of_lt_of_le hl hT, hz, fun i hi => ?_⟩
    obtain ⟨a, c, a', c', h0, h1, h2, h3, h4, h5⟩ := hc i hi
    exact ⟨a, c, a', c', h0, h1, h2, h3, h4.mono hT, h5.mono hT⟩
theorem szUpS_any (a : Option Addr) (n c : Nat) (left : Int) (w : World) (h0 : 0 ≤ left) (h1 : left ≤ 1048576) (hn : n ≤ 9223372036854775807) :
    Calls Try.prog 16 #[.slice a n c, .int .i64 left] w fun e w' => e = .returned (.int .i64 (if (n : Int) ≤ left then left - n else -1)) ∧ w' = w := by
  have hn' : (n : Int) ≤ 9223372036854775807 := by omega
  by_cases h : (n : Int) ≤ left
  · rw [if_pos h]
    have h2 : 0 ≤ left - (n : Int) := by omega
    go_enter Try.func16, Try.ntmps16
    go_wp2
    go_ret
    exact ⟨rfl, rfl⟩
  · rw [if_neg h]
    have h2 : left - (n : Int) < 0 := by omega
    go_enter Try.func16, Try.ntmps16
    go_wp2
    go_ret
    exact ⟨rfl, rfl⟩
theorem szInsS_any (a : Option Addr) (n c : Nat) (left : Int) (w : World) (h0 : 0 ≤ left) (h1 : left ≤ 1048576) (hn : n ≤ 9223372036854775807) :
    Calls Try.prog 17 #[.slice a n c, .int .i64 left] w fun e w' => e = .returned (.int .i64 (if (n : Int) ≤ left then left - n else -1)) ∧ w' = w := by
  have hn' : (n : Int) ≤ 9223372036854775807 := by omega
  by_cases h : (n : Int) ≤ left
  · rw [if_pos h]
    have h2 : 0 ≤ left - (n : Int) := by omega
    go_enter Try.func17, Try.ntmps17
    go_wp2
    go_ret
    exact ⟨rfl, rfl⟩
  · rw [if_neg h]
    have h2 : left - (n : Int) < 0 := by omega
    go_enter Try.func17, Try.ntmps17
    go_wp2
    go_ret
    exact ⟨rfl, rfl⟩
theorem szProto_any (pa sl : Int) (au : Option Addr) (un cu : Nat) (ac : Option Addr) (cn cc : Nat) (left : Int) (w : World) (h0 : 0 ≤ left) (h1 : left ≤ 1048576) (hl : un ≤ 9223372036854775807) (ht : cn ≤ 9223372036854775807) :
    Calls Try.prog 5 #[.agg #[.int .i64 pa, .int .i64 sl, .slice au un cu, .slice ac cn cc], .int .i64 left] w fun e w' => e = .returned (.int .i64 (if (un : Int) + cn ≤ left then left - un - cn else -1)) ∧ Below w.heap.size w w' := by
  have ht' : (cn : Int) ≤ 9223372036854775807 := by omega
  have hl' : (un : Int) ≤ 9223372036854775807 := by omega
  by_cases g1 : (un : Int) ≤ left
  · have g0 : 0 ≤ left - (un : Int) := by omega
    by_cases g2 : (cn : Int) ≤ left - (un : Int)
    · have g3 : 0 ≤ left - (un : Int) - cn := by omega
      rw [if_pos (by omega)]
      go_enter Try.func5, Try.ntmps5
      go_wp2_with (first | (go_at_call 16; refine (szUpS_any _ _ _ _ _ (by omega) (by omega) hl).mono ?_; rw [if_pos g1]; rintro e w1 ⟨rfl, rfl⟩) | (go_at_call 17; refine (szInsS_any _ _ _ _ _ (by omega) (by omega) ht).mono ?_; rw [if_pos g2]; rintro e w1 ⟨rfl, rfl⟩))
      go_ret
      exact ⟨rfl, below_first (Below.refl _ _)⟩
    · rw [if_neg (by omega)]
      go_enter Try.func5, Try.ntmps5
      go_wp2_with (first | (go_at_call 16; refine (szUpS_any _ _ _ _ _ (by omega) (by omega) hl).mono ?_; rw [if_pos g1]; rintro e w1 ⟨rfl, rfl⟩) | (go_at_call 17; refine (szInsS_any _ _ _ _ _ (by omega) (by omega) ht).mono ?_; rw [if_neg (by omega)]; rintro e w1 ⟨rfl, rfl⟩))
      go_ret
      exact ⟨rfl, below_first (Below.refl _ _)⟩
  · rw [if_neg (by omega)]
    go_enter Try.func5, Try.ntmps5
    go_wp2_with (go_at_call 16; refine (szUpS_any _ _ _ _ _ (by omega) (by omega) hl).mono ?_; rw [if_neg (by omega)]; rintro e w1 ⟨rfl, rfl⟩)
    go_ret
    exact ⟨rfl, below_first (Below.refl _ _)⟩
end Go.Proofs.Ytpjliclgjplebaa
