/- - -/
import Derived.Test.YtmckcnmlhgpnhaaGreatWSliceA
import Derived.Laws.BitsAllLaws
import Derived.RegionTactic
import Derived.BigRegion
namespace Go.Proofs.YtmckcnmlhgpnhaaGreat
set_option maxRecDepth 20000
open Go.RowKit
set_option linter.unusedSimpArgs false
theorem zju {k s n : Int} (h : hOk k s n = true) : 1 <= k /\ k <= 6 /\ 1 <= s /\ s <= 256 /\ 0 <= n /\ n <= 1000000000 := by
 rw [zen] at h
 unfold HOk at h
 rcases h with h | h | h | h | h | h <;> omega
theorem zkr {k : IntKind} {a b : Int} {x y : Bool} (h : a = b) (h' : x = y) : Ending.returned (.tuple #[.int k a, .bool x]) = .returned (.tuple #[.int k b, .bool y]) := by rw [h, h']
theorem zif (x : Int) (i : Nat) (h0 : 0 <= x) (h1 : x < 18446744073709551616) (hi : i <= 64) : bits .and .u64 x ((2 ^ i - 1 : Nat) : Int) = x % ((2 ^ i : Nat) : Int) := by
 have hp : 2 ^ i <= 2 ^ 64 := Nat.pow_le_pow_right (by omega) hi
 have hq : 0 < 2 ^ i := Nat.two_pow_pos i
 rw [u64_and x _ h0 h1 (by omega) (by omega)]
 obtain ⟨n, rfl⟩ := Int.eq_ofNat_of_zero_le h0
 simp only [Int.toNat_natCast, Nat.and_two_pow_sub_one_eq_mod]
 omega
theorem zl7 (x : Int) (h0 : 0 <= x) (h1 : x < 18446744073709551616) : bits .and .u64 x 15 = x % 16 := zif x 4 h0 h1 (by omega)
theorem zl8 (x : Int) (h0 : 0 <= x) (h1 : x < 18446744073709551616) : bits .and .u64 x 65535 = x % 65536 := zif x 16 h0 h1 (by omega)
theorem zwh (x : Int) (h0 : 0 <= x) (h1 : x < 18446744073709551616) : bits .and .u64 x 4294967295 = x % 4294967296 := zif x 32 h0 h1 (by omega)
theorem zqt (x : Int) (h0 : 0 <= x) (h1 : x < 18446744073709551616) : bits .and .u64 x 9223372036854775807 = x % 9223372036854775808 := zif x 63 h0 h1 (by omega)
theorem zqu (n : Nat) (h : n < 9223372036854775808) : n &&& 9223372036854775808 = 0 := by
 apply Nat.eq_of_testBit_eq
 intro i
 rw [Nat.testBit_and, show (9223372036854775808 : Nat) = 2 ^ 63 from rfl, Nat.testBit_two_pow]
 by_cases e : 63 = i
 · subst e
   have : n.testBit 63 = false := Nat.testBit_lt_two_pow (by omega)
   simp [this]
 · simp [e]
theorem zqv (n : Nat) (h : 9223372036854775808 <= n) (h' : n < 18446744073709551616) : n &&& 9223372036854775808 = 9223372036854775808 := by
 apply Nat.eq_of_testBit_eq
 intro i
 rw [Nat.testBit_and, show (9223372036854775808 : Nat) = 2 ^ 63 from rfl, Nat.testBit_two_pow]
 by_cases e : 63 = i
 · subst e
   have : n.testBit 63 = true := by rw [Nat.testBit_eq_decide_div_mod_eq]; simp; omega
   simp [this]
 · simp [e]
theorem zxn (x : Int) (h0 : 0 <= x) (h : x < 9223372036854775808) : bits .and .u64 x 9223372036854775808 = 0 := by
 rw [u64_and x _ h0 (by omega) (by omega) (by omega)]
 have := zqu x.toNat (by omega)
 simpa using this
theorem zs5 (x : Int) (h : 9223372036854775808 <= x) (h1 : x < 18446744073709551616) : bits .and .u64 x 9223372036854775808 = 9223372036854775808 := by
 rw [u64_and x _ (by omega) h1 (by omega) (by omega)]
 have := zqv x.toNat (by omega) (by omega)
 simpa using congrArg (fun n : Nat => (n : Int)) this
theorem zpv (x : Int) (h0 : 0 <= x) (h1 : x < 18446744073709551616) : bits .andNot .u64 x 9223372036854775808 = x % 9223372036854775808 := by
 rw [u64_andNot x _ h0 h1 (by omega) (by omega), <- zqt x h0 h1, u64_and x _ h0 h1 (by omega) (by omega)]
 rfl
theorem zfx (k s n : Int) (w : World) (h : hOk k s n = true) :
 Calls Tryz.prog 131 #[.agg #[.int .i64 k, .int .i64 s, .int .i64 n]] w fun e w' => e = .returned (.tuple #[.int .u64 (k + s * 16 + n * 1048576), .bool true]) /\ Below w.heap.size w w' := by
 obtain ⟨h1, h2, h3, h4, h5, h6⟩ := zju h
 go_enter Tryz.func131, Tryz.ntmps131
 go_wp2_with (go_at_call 99; refine (zaw _ _ _ _).mono ?_; rintro e w' ⟨rfl, hb⟩; obtain ⟨hc, hf⟩ := zo hb; first | (have hz := zq hb; have hB := zd hb) | (have hz := Nat.lt_of_lt_of_le (by assumption) hb.size; have hB := zc (w := w) (by assumption) hb) | (have hB := zc (w := w) (by assumption) hb) | (have hB : Below w.heap.size w w' := hb))
 go_ret2
 exact ⟨zkr (by omega) rfl, hB⟩
theorem zjv (k s n : Int) (w : World) (h : hOk k s n = false) :
 Calls Tryz.prog 131 #[.agg #[.int .i64 k, .int .i64 s, .int .i64 n]] w fun e w' => e = .returned (.tuple #[.int .u64 0, .bool false]) /\ Below w.heap.size w w' := by
 go_enter Tryz.func131, Tryz.ntmps131
 go_wp2_with (go_at_call 99; refine (zaw _ _ _ _).mono ?_; rintro e w' ⟨rfl, hb⟩; obtain ⟨hc, hf⟩ := zo hb; first | (have hz := zq hb; have hB := zd hb) | (have hz := Nat.lt_of_lt_of_le (by assumption) hb.size; have hB := zc (w := w) (by assumption) hb) | (have hB := zc (w := w) (by assumption) hb) | (have hB : Below w.heap.size w w' := hb))
 go_ret2
 exact ⟨rfl, hB⟩
theorem zim (x : Int) (w : World) (h0 : 9223372036854775808 <= x) (h1 : x <= 9223372039002259455) :
 Calls Tryz.prog 100 #[.int .u64 x] w fun e w' => e = .returned (.tuple #[.int .i64 (x - 9223372036854775808), .bool true]) /\ w' = w := by
 have e1 := (by omega : x / 9223372036854775808 = 1)
 have e2 := zqt x (by omega) (by omega)
 have e3 : x % 9223372036854775808 = x - 9223372036854775808 := by omega
 rw [e3] at e2
 clear e3
 have e4 : x - 9223372036854775808 <= 2147483647 := by omega
 go_enter Tryz.func100, Tryz.ntmps100
 go_wp2
 go_ret2
 exact ⟨zkr (by first | rfl | omega) rfl, rfl⟩
theorem zin (x : Int) (w : World) (h0 : 0 <= x) (h1 : x < 9223372036854775808) :
 Calls Tryz.prog 100 #[.int .u64 x] w fun e w' => e = .returned (.tuple #[.int .i64 0, .bool false]) /\ w' = w := by
 have e1 := (by omega : x / 9223372036854775808 = 0)
 go_enter Tryz.func100, Tryz.ntmps100
 go_wp2
 go_ret2
 exact ⟨rfl, rfl⟩
theorem zio (x : Int) (w : World) (h0 : 9223372039002259455 < x) (h1 : x < 18446744073709551616) :
 Calls Tryz.prog 100 #[.int .u64 x] w fun e w' => e = .returned (.tuple #[.int .i64 0, .bool false]) /\ w' = w := by
 have e1 := (by omega : x / 9223372036854775808 = 1)
 have e2 := zqt x (by omega) (by omega)
 have e3 : x % 9223372036854775808 = x - 9223372036854775808 := by omega
 rw [e3] at e2
 clear e3
 have e4 : 2147483647 < x - 9223372036854775808 := by omega
 go_enter Tryz.func100, Tryz.ntmps100
 go_wp2
 go_ret2
 exact ⟨rfl, rfl⟩
theorem zip (x : Int) (w : World) (h0 : 9223372036854775808 <= x) (h1 : x <= 9223372039002259455) :
 Calls Tryz.prog 158 #[.int .u64 x] w fun e w' => e = .returned (.tuple #[.int .i64 (x - 9223372036854775808), .bool true]) /\ w' = w := by
 have e1 := zs5 x h0 (by omega)
 have e2 := zpv x (by omega) (by omega)
 have e3 : x % 9223372036854775808 = x - 9223372036854775808 := by omega
 rw [e3] at e2
 clear e3
 have e4 : x - 9223372036854775808 <= 2147483647 := by omega
 go_enter Tryz.func158, Tryz.ntmps158
 go_wp2
 go_ret2
 exact ⟨zkr (by first | rfl | omega) rfl, rfl⟩
theorem ziq (x : Int) (w : World) (h0 : 0 <= x) (h1 : x < 9223372036854775808) :
 Calls Tryz.prog 158 #[.int .u64 x] w fun e w' => e = .returned (.tuple #[.int .i64 0, .bool false]) /\ w' = w := by
 have e1 := zxn x h0 h1
 go_enter Tryz.func158, Tryz.ntmps158
 go_wp2
 go_ret2
 exact ⟨rfl, rfl⟩
theorem zir (x : Int) (w : World) (h0 : 9223372039002259455 < x) (h1 : x < 18446744073709551616) :
 Calls Tryz.prog 158 #[.int .u64 x] w fun e w' => e = .returned (.tuple #[.int .i64 0, .bool false]) /\ w' = w := by
 have e1 := zs5 x (by omega) h1
 have e2 := zpv x (by omega) (by omega)
 have e3 : x % 9223372036854775808 = x - 9223372036854775808 := by omega
 rw [e3] at e2
 clear e3
 have e4 : 2147483647 < x - 9223372036854775808 := by omega
 go_enter Tryz.func158, Tryz.ntmps158
 go_wp2
 go_ret2
 exact ⟨rfl, rfl⟩
theorem zje (x : Int) (w : World) (h0 : 0 <= x) (h1 : x < 18446744073709551616) (h : hOk (x % 16) (x / 16 % 65536) (x / 1048576) = true) :
 Calls Tryz.prog 115 #[.int .u64 x] w fun e w' => e = .returned (.tuple #[.agg #[.int .i64 (x % 16), .int .i64 (x / 16 % 65536), .int .i64 (x / 1048576)], .bool true]) /\ Below w.heap.size w w' := by
 have e1 := zl7 x h0 h1
 have e2 := zl8 (x / 16) (by omega) (by omega)
 have e3 : x / 16 / 65536 = x / 1048576 := by omega
 go_enter Tryz.func115, Tryz.ntmps115
 go_wp2_with (go_at_call 146; refine (zgy _ _ _ _).mono ?_; rintro e w' ⟨rfl, hb⟩; obtain ⟨hc, hf⟩ := zo hb; first | (have hz := zq hb; have hB := zd hb) | (have hz := Nat.lt_of_lt_of_le (by assumption) hb.size; have hB := zc (w := w) (by assumption) hb) | (have hB := zc (w := w) (by assumption) hb) | (have hB : Below w.heap.size w w' := hb))
 have q0 : (w'.cell? ⟨w.heap.size, 0, none⟩).isSome = true := by rw [hc _ _ (by simp; omega)]; simp [go_sem]
 have q1 : (w'.cell? ⟨w.heap.size, 1, none⟩).isSome = true := by rw [hc _ _ (by simp; omega)]; simp [go_sem]
 have q2 : (w'.cell? ⟨w.heap.size, 2, none⟩).isSome = true := by rw [hc _ _ (by simp; omega)]; simp [go_sem]
 refine bodyPost_ret (v := .tuple #[.agg #[.int .i64 (x % 16), .int .i64 (x / 16 % 65536), .int .i64 (x / 1048576)], .bool true]) (by simp [results, Tryz.results115, go_sem, q0, q1, q2]) rfl ⟨rfl, ?_⟩
 exact (((zd hB).setCell (by simp) _).setCell (by simp) _).setCell (by simp) _
theorem zjf (x : Int) (w : World) (h0 : 0 <= x) (h1 : x < 18446744073709551616) (h : hOk (x % 16) (x / 16 % 65536) (x / 1048576) = true) :
 Calls Tryz.prog 98 #[.int .u64 x] w fun e w' => e = .returned (.tuple #[.agg #[.int .i64 (x % 16), .int .i64 (x / 16 % 65536), .int .i64 (x / 1048576)], .bool true]) /\ Below w.heap.size w w' := by
 have e1 := zl7 x h0 h1
 have e2 := zl8 (x / 16) (by omega) (by omega)
 have e3 := zwh (x / 1048576) (by omega) (by omega)
 have hbd := zju h
 have e4 : x / 1048576 % 4294967296 = x / 1048576 := by omega
 clear hbd
 rw [e4] at e3
 clear e4
 have e5 : x % 16 + x / 16 % 65536 * 16 + x / 1048576 * 1048576 = x := by omega
 go_enter Tryz.func98, Tryz.ntmps98
 go_wp2_with (go_at_call 131; refine (zfx _ _ _ _ h).mono ?_; rintro e w' ⟨rfl, hb⟩; obtain ⟨hc, hf⟩ := zo hb; first | (have hz := zq hb; have hB := zd hb) | (have hz := Nat.lt_of_lt_of_le (by assumption) hb.size; have hB := zc (w := w) (by assumption) hb) | (have hB := zc (w := w) (by assumption) hb) | (have hB : Below w.heap.size w w' := hb))
 have q0 : (w'.cell? ⟨w.heap.size, 0, none⟩).isSome = true := by rw [hc _ _ (by simp; omega)]; simp [go_sem]
 have q1 : (w'.cell? ⟨w.heap.size, 1, none⟩).isSome = true := by rw [hc _ _ (by simp; omega)]; simp [go_sem]
 have q2 : (w'.cell? ⟨w.heap.size, 2, none⟩).isSome = true := by rw [hc _ _ (by simp; omega)]; simp [go_sem]
 refine bodyPost_ret (v := .tuple #[.agg #[.int .i64 (x % 16), .int .i64 (x / 16 % 65536), .int .i64 (x / 1048576)], .bool true]) (by simp [results, Tryz.results98, go_sem, q0, q1, q2]) rfl ⟨rfl, ?_⟩
 exact (((zd hB).setCell (by simp) _).setCell (by simp) _).setCell (by simp) _
theorem zjs (x : Int) (w : World) (h0 : 0 <= x) (h1 : x < 18446744073709551616) (h : hOk (x % 16) (x / 16 % 65536) (x / 1048576) = false) :
 Calls Tryz.prog 115 #[.int .u64 x] w fun e w' => e = .returned (.tuple #[.agg #[.int .i64 0, .int .i64 0, .int .i64 0], .bool false]) /\ Below w.heap.size w w' := by
 have e1 := zl7 x h0 h1
 have e2 := zl8 (x / 16) (by omega) (by omega)
 have e3 : x / 16 / 65536 = x / 1048576 := by omega
 go_enter Tryz.func115, Tryz.ntmps115
 go_wp2_with (go_at_call 146; refine (zgy _ _ _ _).mono ?_; rintro e w' ⟨rfl, hb⟩; obtain ⟨hc, hf⟩ := zo hb; first | (have hz := zq hb; have hB := zd hb) | (have hz := Nat.lt_of_lt_of_le (by assumption) hb.size; have hB := zc (w := w) (by assumption) hb) | (have hB := zc (w := w) (by assumption) hb) | (have hB : Below w.heap.size w w' := hb))
 have q0 : (w'.cell? ⟨w.heap.size, 0, none⟩).isSome = true := by rw [hc _ _ (by simp; omega)]; simp [go_sem]
 have q1 : (w'.cell? ⟨w.heap.size, 1, none⟩).isSome = true := by rw [hc _ _ (by simp; omega)]; simp [go_sem]
 have q2 : (w'.cell? ⟨w.heap.size, 2, none⟩).isSome = true := by rw [hc _ _ (by simp; omega)]; simp [go_sem]
 refine bodyPost_ret (v := .tuple #[.agg #[.int .i64 0, .int .i64 0, .int .i64 0], .bool false]) (by simp [results, Tryz.results115, go_sem, q0, q1, q2]) rfl ⟨rfl, ?_⟩
 exact (((zd hB).setCell (by simp) _).setCell (by simp) _).setCell (by simp) _
theorem zjt (x : Int) (w : World) (h0 : 0 <= x) (h1 : x < 18446744073709551616) (h : hOk (x % 16) (x / 16 % 65536) (x / 1048576) = false) :
 Calls Tryz.prog 98 #[.int .u64 x] w fun e w' => e = .returned (.tuple #[.agg #[.int .i64 0, .int .i64 0, .int .i64 0], .bool false]) /\ Below w.heap.size w w' := by
 have e1 := zl7 x h0 h1
 have e2 := zl8 (x / 16) (by omega) (by omega)
 have e3 := zwh (x / 1048576) (by omega) (by omega)
 by_cases g : hOk (x % 16) (x / 16 % 65536) (x / 1048576 % 4294967296) = true
 · have hn : ¬ x / 1048576 % 4294967296 = x / 1048576 := by
    intro e
    rw [e, h] at g
    exact absurd g (by decide)
   have e5 : (x % 16 + x / 16 % 65536 * 16 + x / 1048576 % 4294967296 * 1048576 == x) = false := by
    rw [beq_eq_false_iff_ne]
    omega
   clear hn h
   go_enter Tryz.func98, Tryz.ntmps98
   go_wp2_with (go_at_call 131; refine (zfx _ _ _ _ g).mono ?_; rintro e w' ⟨rfl, hb⟩; obtain ⟨hc, hf⟩ := zo hb; first | (have hz := zq hb; have hB := zd hb) | (have hz := Nat.lt_of_lt_of_le (by assumption) hb.size; have hB := zc (w := w) (by assumption) hb) | (have hB := zc (w := w) (by assumption) hb) | (have hB : Below w.heap.size w w' := hb))
   have q0 : (w'.cell? ⟨w.heap.size, 0, none⟩).isSome = true := by rw [hc _ _ (by simp; omega)]; simp [go_sem]
   have q1 : (w'.cell? ⟨w.heap.size, 1, none⟩).isSome = true := by rw [hc _ _ (by simp; omega)]; simp [go_sem]
   have q2 : (w'.cell? ⟨w.heap.size, 2, none⟩).isSome = true := by rw [hc _ _ (by simp; omega)]; simp [go_sem]
   refine bodyPost_ret (v := .tuple #[.agg #[.int .i64 0, .int .i64 0, .int .i64 0], .bool false]) (by simp [results, Tryz.results98, go_sem, q0, q1, q2]) rfl ⟨rfl, ?_⟩
   exact (((zd hB).setCell (by simp) _).setCell (by simp) _).setCell (by simp) _
 · rw [Bool.not_eq_true] at g
   clear h
   go_enter Tryz.func98, Tryz.ntmps98
   go_wp2_with (go_at_call 131; refine (zjv _ _ _ _ g).mono ?_; rintro e w' ⟨rfl, hb⟩; obtain ⟨hc, hf⟩ := zo hb; first | (have hz := zq hb; have hB := zd hb) | (have hz := Nat.lt_of_lt_of_le (by assumption) hb.size; have hB := zc (w := w) (by assumption) hb) | (have hB := zc (w := w) (by assumption) hb) | (have hB : Below w.heap.size w w' := hb))
   have q0 : (w'.cell? ⟨w.heap.size, 0, none⟩).isSome = true := by rw [hc _ _ (by simp; omega)]; simp [go_sem]
   have q1 : (w'.cell? ⟨w.heap.size, 1, none⟩).isSome = true := by rw [hc _ _ (by simp; omega)]; simp [go_sem]
   have q2 : (w'.cell? ⟨w.heap.size, 2, none⟩).isSome = true := by rw [hc _ _ (by simp; omega)]; simp [go_sem]
   refine bodyPost_ret (v := .tuple #[.agg #[.int .i64 0, .int .i64 0, .int .i64 0], .bool false]) (by simp [results, Tryz.results98, go_sem, q0, q1, q2]) rfl ⟨rfl, ?_⟩
   exact (((zd hB).setCell (by simp) _).setCell (by simp) _).setCell (by simp) _
def isR (t : Int) : Bool := decide (t = 3 \/ t = 4 \/ t = 5 \/ t = 6 \/ t = 8 \/ t = 9)
def vOk (t n : Int) : Bool := decide ((t = 0 /\ n = 0) \/ (t = 1 /\ (n = 0 \/ n = 1)) \/ t = 2 \/ (t = 7 /\ 1 <= n /\ n <= 20) \/ ((t = 3 \/ t = 4 \/ t = 5 \/ t = 6 \/ t = 8 \/ t = 9) /\ 0 < n))
def za2 (t : Int) : Int := if t = 3 then 1 else if t = 4 then 2 else if t = 5 then 4 else if t = 6 then 6 else if t = 8 then 3 else if t = 9 then 5 else 0
theorem zjw (t : Int) (w : World) :
 Calls Tryz.prog 97 #[.int .i64 t] w fun e w' => e = .returned (.int .i64 (za2 t)) /\ w' = w := by
 go_enter Tryz.func97, Tryz.ntmps97
 go_wp2
 all_goals
  go_ret
  refine ⟨zby ?_, rfl⟩
  go_light
  simp [za2] at *
  try simp [*]
theorem zs7 (t : Int) : (za2 t != 0) = isR t := by
 unfold za2 isR
 rw [Bool.eq_iff_iff]
 simp only [bne_iff_ne, ne_eq, decide_eq_true_eq]
 repeat (first | omega | split)
theorem zaq (t n : Int) (w : World) :
 Calls Tryz.prog 42 #[.agg #[.int .i64 t, .int .i64 n]] w fun e w' => e = .returned (.bool (isR t)) /\ Below w.heap.size w w' := by
 go_enter Tryz.func42, Tryz.ntmps42
 go_wp2_with (go_at_call 97; refine (zjw _ _).mono ?_; rintro e w' ⟨rfl, rfl⟩)
 go_ret
 exact ⟨zbh (zs7 t), (Below.refl _ _).alloc (Nat.le_refl _) _⟩
theorem za6 (t n : Int) (w : World) :
 Calls Tryz.prog 119 #[.agg #[.int .i64 t, .int .i64 n]] w fun e w' => e = .returned (.bool (isR t)) /\ Below w.heap.size w w' := by
 go_enter Tryz.func119, Tryz.ntmps119
 go_wp2
 all_goals
  go_ret
  refine ⟨zbh ?_, (Below.refl _ _).alloc (Nat.le_refl _) _⟩
  go_light
  rw [Bool.eq_iff_iff]
  simp [isR] at * <;> omega
theorem zc1 (t n : Int) (w : World) :
 Calls Tryz.prog 95 #[.agg #[.int .i64 t, .int .i64 n]] w fun e w' => e = .returned (.bool (vOk t n)) /\ Below w.heap.size w w' := by
 go_enter Tryz.func95, Tryz.ntmps95
 go_wp2_with (first | (go_at_call 104; refine (zw _ _ _ _).mono ?_; rintro e w' ⟨rfl, rfl⟩) | (go_at_call 42; refine (zaq _ _ _).mono ?_; rintro e w' ⟨rfl, hb⟩; obtain ⟨hc, hf⟩ := zo hb; first | (have hz := zq hb; have hB := zd hb) | (have hz := Nat.lt_of_lt_of_le (by assumption) hb.size; have hB := zc (w := w) (by assumption) hb) | (have hB := zc (w := w) (by assumption) hb) | (have hB : Below w.heap.size w w' := hb)))
 all_goals
  go_ret
  refine ⟨zbh ?_, by first | exact (Below.refl _ _).alloc (Nat.le_refl _) _ | assumption⟩
  go_light
  try clear hb hc hf hz hB
  rw [Bool.eq_iff_iff]
  simp [vOk, isR, inB] at * <;> omega
theorem zdv (t n : Int) (w : World) :
 Calls Tryz.prog 173 #[.agg #[.int .i64 t, .int .i64 n]] w fun e w' => e = .returned (.bool (vOk t n)) /\ Below w.heap.size w w' := by
 go_enter Tryz.func173, Tryz.ntmps173
 go_wp2_with (first | (go_at_call 119; refine (za6 _ _ _).mono ?_; rintro e w' ⟨rfl, hb⟩; obtain ⟨hc, hf⟩ := zo hb; first | (have hz := zq hb; have hB := zd hb) | (have hz := Nat.lt_of_lt_of_le (by assumption) hb.size; have hB := zc (w := w) (by assumption) hb) | (have hB := zc (w := w) (by assumption) hb) | (have hB : Below w.heap.size w w' := hb)))
 all_goals
  go_ret
  refine ⟨zbh ?_, by first | exact (Below.refl _ _).alloc (Nat.le_refl _) _ | assumption⟩
  go_light
  try clear hb hc hf hz hB
  rw [Bool.eq_iff_iff]
  simp [vOk, isR, inB] at * <;> omega
theorem zk9 (t n : Int) (w : World) :
 Calls Tryz.prog 59 #[.agg #[.int .i64 t, .int .i64 n]] w fun e w' => e = .returned (.agg #[.int .i64 t, .int .i64 n]) /\ Below w.heap.size w w' := by
 go_enter Tryz.func59, Tryz.ntmps59
 go_wp2
 exact bodyPost_ret (v := .agg #[.int .i64 t, .int .i64 n]) (by simp [results, Tryz.results59, go_sem]) rfl ⟨rfl, (((Below.refl _ _).alloc (Nat.le_refl _) _).alloc (by simp) _).alloc (by simp; omega) _⟩
set_option linter.unusedVariables false
theorem zgl (a : Option Addr) (n cap : Nat) (i : Int) (w : World) (hn : n <= 1048576) :
 Calls Tryz.prog 185 #[.slice a n cap, .int .i64 i] w fun e w' => e = .returned (.bool (decide (0 <= i /\ i + 1 < n))) /\ w' = w := by
 have hn' : (n : Int) <= 1048576 := by omega
 go_enter Tryz.func185, Tryz.ntmps185
 go_wp2
 all_goals
  go_ret
  refine ⟨zbh ?_, rfl⟩
  go_light
  rw [Bool.eq_iff_iff]
  simp at * <;> omega
theorem zg9 {w w' : World} {A B : Obj} (hb : Below ((w.alloc A).alloc B).drew.heap.size ((w.alloc A).alloc B).drew w') : Below w.heap.size w w' :=
 ((((Below.refl _ _).alloc (Nat.le_refl _) _).alloc (by simp) _).drew).trans (hb.mono (by simp; omega))
theorem zks (b off cap n : Nat) (k : Nat) (x y : Int) (w : World) (hk : k + 1 < n) (hn : n <= 1048576) (h1 : w.cell? ⟨b, off + k, none⟩ = some (.int .u64 x)) (h2 : w.cell? ⟨b, off + (k + 1), none⟩ = some (.int .u64 y)) (hbl : b < w.heap.size) (hv : vOk (wrap64 x) (wrap64 y) = true) :
 Calls Tryz.prog 145 #[.slice (some ⟨b, off, none⟩) n cap, .int .i64 k] w fun e w' => e = .returned (.tuple #[.agg #[.int .i64 (wrap64 x), .int .i64 (wrap64 y)], .bool true]) /\ Below w.heap.size w w' := by
 have hn' : (n : Int) <= 1048576 := by omega
 have hk' : (k : Int) + 1 < (n : Int) := by omega
 have hk0 : (k : Int) < (n : Int) := by omega
 have hd : decide (0 <= (k : Int) /\ (k : Int) + 1 < (n : Int)) = true := by simp; omega
 go_enter Tryz.func145, Tryz.ntmps145
 go_wp2_with (go_at_call 185; refine (zgl _ _ _ _ _ hn).mono ?_; rintro e w' ⟨rfl, rfl⟩)
 go_region
 go_wp2_with (go_at_call 173; refine (zdv _ _ _).mono ?_; rintro e w' ⟨rfl, hb⟩; obtain ⟨hc, hf⟩ := zo hb)
 have q0 : (w'.cell? ⟨w.heap.size, 0, none⟩).isSome = true := by rw [hc _ _ (by simp; omega)]; simp [go_sem]
 have q1 : (w'.cell? ⟨w.heap.size, 1, none⟩).isSome = true := by rw [hc _ _ (by simp; omega)]; simp [go_sem]
 refine bodyPost_ret (v := .tuple #[.agg #[.int .i64 (wrap64 x), .int .i64 (wrap64 y)], .bool true]) (by simp [results, Tryz.results145, go_sem, q0, q1]) rfl ⟨rfl, ?_⟩
 exact ((zg9 hb).setCell (by simp) _).setCell (by simp) _
theorem zlq (b off cap n : Nat) (k : Nat) (x y : Int) (w : World) (hk : k + 1 < n) (hn : n <= 1048576) (h1 : w.cell? ⟨b, off + k, none⟩ = some (.int .u64 x)) (h2 : w.cell? ⟨b, off + (k + 1), none⟩ = some (.int .u64 y)) (hbl : b < w.heap.size) (hv : vOk (wrap64 x) (wrap64 y) = false) :
 Calls Tryz.prog 145 #[.slice (some ⟨b, off, none⟩) n cap, .int .i64 k] w fun e w' => e = .returned (.tuple #[.agg #[.int .i64 0, .int .i64 0], .bool false]) /\ Below w.heap.size w w' := by
 have hn' : (n : Int) <= 1048576 := by omega
 have hk' : (k : Int) + 1 < (n : Int) := by omega
 have hk0 : (k : Int) < (n : Int) := by omega
 have hd : decide (0 <= (k : Int) /\ (k : Int) + 1 < (n : Int)) = true := by simp; omega
 go_enter Tryz.func145, Tryz.ntmps145
 go_wp2_with (go_at_call 185; refine (zgl _ _ _ _ _ hn).mono ?_; rintro e w' ⟨rfl, rfl⟩)
 go_region
 go_wp2_with (go_at_call 173; refine (zdv _ _ _).mono ?_; rintro e w' ⟨rfl, hb⟩; obtain ⟨hc, hf⟩ := zo hb)
 have q0 : (w'.cell? ⟨w.heap.size, 0, none⟩).isSome = true := by rw [hc _ _ (by simp; omega)]; simp [go_sem]
 have q1 : (w'.cell? ⟨w.heap.size, 1, none⟩).isSome = true := by rw [hc _ _ (by simp; omega)]; simp [go_sem]
 refine bodyPost_ret (v := .tuple #[.agg #[.int .i64 0, .int .i64 0], .bool false]) (by simp [results, Tryz.results145, go_sem, q0, q1]) rfl ⟨rfl, ?_⟩
 exact ((zg9 hb).setCell (by simp) _).setCell (by simp) _
theorem zqw (b off cap n : Nat) (k : Nat) (x y : Int) (w : World) (hk : k + 1 < n) (hn : n <= 1048576) (h1 : w.cell? ⟨b, off + k, none⟩ = some (.int .u64 x)) (h2 : w.cell? ⟨b, off + (k + 1), none⟩ = some (.int .u64 y)) (hbl : b < w.heap.size) (hx0 : 0 <= x) (hx : x <= 15) (hv : vOk x (wrap64 y) = true) :
 Calls Tryz.prog 45 #[.slice (some ⟨b, off, none⟩) n cap, .int .i64 k] w fun e w' => e = .returned (.tuple #[.agg #[.int .i64 x, .int .i64 (wrap64 y)], .bool true]) /\ Below w.heap.size w w' := by
 have hn' : (n : Int) <= 1048576 := by omega
 have hk' : (k : Int) + 1 < (n : Int) := by omega
 have hk0 : (k : Int) < (n : Int) := by omega
 go_enter Tryz.func45, Tryz.ntmps45
 go_wp2
 go_region
 go_wp2_with (go_at_call 95; refine (zc1 _ _ _).mono ?_; rintro e w' ⟨rfl, hb⟩; obtain ⟨hc, hf⟩ := zo hb)
 have q0 : (w'.cell? ⟨w.heap.size, 0, none⟩).isSome = true := by rw [hc _ _ (by simp; omega)]; simp [go_sem]
 have q1 : (w'.cell? ⟨w.heap.size, 1, none⟩).isSome = true := by rw [hc _ _ (by simp; omega)]; simp [go_sem]
 refine bodyPost_ret (v := .tuple #[.agg #[.int .i64 x, .int .i64 (wrap64 y)], .bool true]) (by simp [results, Tryz.results45, go_sem, q0, q1]) rfl ⟨rfl, ?_⟩
 exact ((zg9 hb).setCell (by simp) _).setCell (by simp) _
theorem zs6 (b off cap n : Nat) (k : Nat) (x y : Int) (w : World) (hk : k + 1 < n) (hn : n <= 1048576) (h1 : w.cell? ⟨b, off + k, none⟩ = some (.int .u64 x)) (h2 : w.cell? ⟨b, off + (k + 1), none⟩ = some (.int .u64 y)) (hbl : b < w.heap.size) (hx0 : 0 <= x) (hx : x <= 15) (hv : vOk x (wrap64 y) = false) :
 Calls Tryz.prog 45 #[.slice (some ⟨b, off, none⟩) n cap, .int .i64 k] w fun e w' => e = .returned (.tuple #[.agg #[.int .i64 0, .int .i64 0], .bool false]) /\ Below w.heap.size w w' := by
 have hn' : (n : Int) <= 1048576 := by omega
 have hk' : (k : Int) + 1 < (n : Int) := by omega
 have hk0 : (k : Int) < (n : Int) := by omega
 go_enter Tryz.func45, Tryz.ntmps45
 go_wp2
 go_region
 go_wp2_with (go_at_call 95; refine (zc1 _ _ _).mono ?_; rintro e w' ⟨rfl, hb⟩; obtain ⟨hc, hf⟩ := zo hb)
 have q0 : (w'.cell? ⟨w.heap.size, 0, none⟩).isSome = true := by rw [hc _ _ (by simp; omega)]; simp [go_sem]
 have q1 : (w'.cell? ⟨w.heap.size, 1, none⟩).isSome = true := by rw [hc _ _ (by simp; omega)]; simp [go_sem]
 refine bodyPost_ret (v := .tuple #[.agg #[.int .i64 0, .int .i64 0], .bool false]) (by simp [results, Tryz.results45, go_sem, q0, q1]) rfl ⟨rfl, ?_⟩
 exact ((zg9 hb).setCell (by simp) _).setCell (by simp) _
theorem zqx (b off cap n : Nat) (k : Nat) (x y : Int) (w : World) (hk : k + 1 < n) (hn : n <= 1048576) (h1 : w.cell? ⟨b, off + k, none⟩ = some (.int .u64 x)) (h2 : w.cell? ⟨b, off + (k + 1), none⟩ = some (.int .u64 y)) (hbl : b < w.heap.size) (hx : 15 < x) :
 Calls Tryz.prog 45 #[.slice (some ⟨b, off, none⟩) n cap, .int .i64 k] w fun e w' => e = .returned (.tuple #[.agg #[.int .i64 0, .int .i64 0], .bool false]) /\ Below w.heap.size w w' := by
 have hn' : (n : Int) <= 1048576 := by omega
 have hk' : (k : Int) + 1 < (n : Int) := by omega
 have hk0 : (k : Int) < (n : Int) := by omega
 go_enter Tryz.func45, Tryz.ntmps45
 go_wp2
 exact bodyPost_ret (v := .tuple #[.agg #[.int .i64 0, .int .i64 0], .bool false]) (by simp [results, Tryz.results45, go_sem]) rfl ⟨rfl, (Below.refl _ _).alloc (Nat.le_refl _) _⟩
theorem zkt (a : Option Addr) (n cap : Nat) (i : Int) (w : World) (hn : n <= 1048576) (hi : ¬ (0 <= i /\ i + 1 < n)) :
 Calls Tryz.prog 145 #[.slice a n cap, .int .i64 i] w fun e w' => e = .returned (.tuple #[.agg #[.int .i64 0, .int .i64 0], .bool false]) /\ Below w.heap.size w w' := by
 have hd : decide (0 <= i /\ i + 1 < (n : Int)) = false := decide_eq_false hi
 go_enter Tryz.func145, Tryz.ntmps145
 go_wp2_with (go_at_call 185; refine (zgl _ _ _ _ _ hn).mono ?_; rintro e w' ⟨rfl, rfl⟩; rw [hd])
 exact bodyPost_ret (v := .tuple #[.agg #[.int .i64 0, .int .i64 0], .bool false]) (by simp [results, Tryz.results145, go_sem]) rfl ⟨rfl, (Below.refl _ _).alloc (Nat.le_refl _) _⟩
theorem zx {w : World} {o : Obj} {b i : Nat} {v : Value} (hb : b < w.heap.size) (h : w.cell? ⟨b, i, none⟩ = some v) : (w.alloc o).cell? ⟨b, i, none⟩ = some v := by
 rw [World.cell?_alloc_lt w o ⟨b, i, none⟩ hb]; exact h
theorem zc6 {w : World} {o : Obj} {b : Nat} (hb : b < w.heap.size) : b < (w.alloc o).heap.size := by simp; omega
def zku (zs : List Int) (i : Int) : Bool := decide (0 <= i /\ i + 1 < zs.length) && vOk (wrap64 (zs.getD i.toNat 0)) (wrap64 (zs.getD (i.toNat + 1) 0))
theorem zhu {x y : Int} (h0 : 0 <= x) (h1 : x < 18446744073709551616) (h : vOk (wrap64 x) y = true) : x <= 15 /\ wrap64 x = x := by
 simp only [vOk, decide_eq_true_eq] at h
 unfold wrap64 at *
 omega
theorem zmn {x : Int} (h0 : 0 <= x) (h1 : x <= 15) : wrap64 x = x := by unfold wrap64; omega
theorem zg.at {zs : List Int} (h : zg zs) (i : Nat) : 0 <= zs.getD i 0 /\ zs.getD i 0 < 18446744073709551616 := by
 by_cases hi : i < zs.length
 · simp only [List.getD_eq_getElem?_getD, List.getElem?_eq_getElem hi, Option.getD_some]
   exact h _ (List.getElem_mem hi)
 · simp [List.getElem?_eq_none (Nat.le_of_not_lt hi)]
theorem zmo (v : Value) (zs : List Int) (i : Int) (w : World) (hs : Sl w v zs) (hn : zs.length <= 1048576) (hw : zg zs) (h : zku zs i = true) :
 Calls Tryz.prog 145 #[v, .int .i64 i] w fun e w' => e = .returned (.tuple #[.agg #[.int .i64 (wrap64 (zs.getD i.toNat 0)), .int .i64 (wrap64 (zs.getD (i.toNat + 1) 0))], .bool true]) /\ Below w.heap.size w w' := by
 simp only [zku, Bool.and_eq_true, decide_eq_true_eq] at h
 obtain ⟨⟨hi0, hi1⟩, hv⟩ := h
 obtain ⟨k, rfl⟩ := Int.eq_ofNat_of_zero_le hi0
 obtain ⟨b, off, cap, rfl, hb, hc⟩ := hs.parts (k := k) (by omega)
 rw [Int.toNat_natCast] at hv ⊢
 exact zks b off cap zs.length k _ _ w (by omega) hn (hc k (by omega)) (hc (k + 1) (by omega)) hb hv
theorem zmp (v : Value) (zs : List Int) (i : Int) (w : World) (hs : Sl w v zs) (hn : zs.length <= 1048576) (hw : zg zs) (h : zku zs i = false) :
 Calls Tryz.prog 145 #[v, .int .i64 i] w fun e w' => e = .returned (.tuple #[.agg #[.int .i64 0, .int .i64 0], .bool false]) /\ Below w.heap.size w w' := by
 by_cases hi : 0 <= i /\ i + 1 < zs.length
 · simp only [zku, decide_eq_true hi, Bool.true_and] at h
   obtain ⟨hi0, hi1⟩ := hi
   obtain ⟨k, rfl⟩ := Int.eq_ofNat_of_zero_le hi0
   obtain ⟨b, off, cap, rfl, hb, hc⟩ := hs.parts (k := k) (by omega)
   rw [Int.toNat_natCast] at h
   exact zlq b off cap zs.length k _ _ w (by omega) hn (hc k (by omega)) (hc (k + 1) (by omega)) hb h
 · obtain ⟨a, cap, rfl⟩ := hs.head
   exact zkt a zs.length cap i w hn hi
end Go.Proofs.YtmckcnmlhgpnhaaGreat
