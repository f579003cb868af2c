/- - -/
import Derived.Test.YtmckcnmlhgpnhaaGreatPHeadA
import Derived.Laws.BitsAllLaws
namespace Go.Proofs.YtmckcnmlhgpnhaaGreat
set_option maxRecDepth 20000
open Go.RowKit
set_option linter.unusedSimpArgs false
theorem zit {k s n : Int} (h : hOk k s n = true) : 1 <= k /\ k <= 6 /\ 1 <= s /\ s <= 256 /\ 0 <= n /\ n <= 1000000000 := by
 rw [zeb] at h
 unfold HOk at h
 rcases h with h | h | h | h | h | h <;> omega
theorem zjg {k : IntKind} {a b : Int} {x y : Bool} (h : a = b) (h' : x = y) : Ending.returned (.tuple #[.int k a, .bool x]) = .returned (.tuple #[.int k b, .bool y]) := by rw [h, h']
theorem zhh (x : Int) (i : Nat) (h0 : 0 <= x) (h1 : x < 18446744073709551616) (hi : i <= 64) : bits .and .u64 x ((2 ^ i - 1 : Nat) : Int) = x % ((2 ^ i : Nat) : Int) := by
 have hp : 2 ^ i <= 2 ^ 64 := Nat.pow_le_pow_right (by omega) hi
 have hq : 0 < 2 ^ i := Nat.two_pow_pos i
 rw [u64_and x _ h0 h1 (by omega) (by omega)]
 obtain ⟨n, rfl⟩ := Int.eq_ofNat_of_zero_le h0
 simp only [Int.toNat_natCast, Nat.and_two_pow_sub_one_eq_mod]
 omega
theorem zkn (x : Int) (h0 : 0 <= x) (h1 : x < 18446744073709551616) : bits .and .u64 x 15 = x % 16 := zhh x 4 h0 h1 (by omega)
theorem zko (x : Int) (h0 : 0 <= x) (h1 : x < 18446744073709551616) : bits .and .u64 x 65535 = x % 65536 := zhh x 16 h0 h1 (by omega)
theorem ztf (x : Int) (h0 : 0 <= x) (h1 : x < 18446744073709551616) : bits .and .u64 x 4294967295 = x % 4294967296 := zhh x 32 h0 h1 (by omega)
theorem zol (x : Int) (h0 : 0 <= x) (h1 : x < 18446744073709551616) : bits .and .u64 x 9223372036854775807 = x % 9223372036854775808 := zhh x 63 h0 h1 (by omega)
theorem zom (n : Nat) (h : n < 9223372036854775808) : n &&& 9223372036854775808 = 0 := by
 apply Nat.eq_of_testBit_eq
 intro i
 rw [Nat.testBit_and, show (9223372036854775808 : Nat) = 2 ^ 63 from rfl, Nat.testBit_two_pow]
 by_cases e : 63 = i
 · subst e
   have : n.testBit 63 = false := Nat.testBit_lt_two_pow (by omega)
   simp [this]
 · simp [e]
theorem zon (n : Nat) (h : 9223372036854775808 <= n) (h' : n < 18446744073709551616) : n &&& 9223372036854775808 = 9223372036854775808 := by
 apply Nat.eq_of_testBit_eq
 intro i
 rw [Nat.testBit_and, show (9223372036854775808 : Nat) = 2 ^ 63 from rfl, Nat.testBit_two_pow]
 by_cases e : 63 = i
 · subst e
   have : n.testBit 63 = true := by rw [Nat.testBit_eq_decide_div_mod_eq]; simp; omega
   simp [this]
 · simp [e]
theorem zua (x : Int) (h0 : 0 <= x) (h : x < 9223372036854775808) : bits .and .u64 x 9223372036854775808 = 0 := by
 rw [u64_and x _ h0 (by omega) (by omega) (by omega)]
 have := zom x.toNat (by omega)
 simpa using this
theorem zqo (x : Int) (h : 9223372036854775808 <= x) (h1 : x < 18446744073709551616) : bits .and .u64 x 9223372036854775808 = 9223372036854775808 := by
 rw [u64_and x _ (by omega) h1 (by omega) (by omega)]
 have := zon x.toNat (by omega) (by omega)
 simpa using congrArg (fun n : Nat => (n : Int)) this
theorem zno (x : Int) (h0 : 0 <= x) (h1 : x < 18446744073709551616) : bits .andNot .u64 x 9223372036854775808 = x % 9223372036854775808 := by
 rw [u64_andNot x _ h0 h1 (by omega) (by omega), <- zol x h0 h1, u64_and x _ h0 h1 (by omega) (by omega)]
 rfl
theorem zfh (k s n : Int) (w : World) (h : hOk k s n = true) :
 Calls Tryz.prog 131 #[.agg #[.int .i64 k, .int .i64 s, .int .i64 n]] w fun e w' => e = .returned (.tuple #[.int .u64 (k + s * 16 + n * 1048576), .bool true]) /\ Below w.heap.size w w' := by
 obtain ⟨h1, h2, h3, h4, h5, h6⟩ := zit h
 go_enter Tryz.func131, Tryz.ntmps131
 go_wp2_with (go_at_call 99; refine (zap _ _ _ _).mono ?_; rintro e w' ⟨rfl, hb⟩; obtain ⟨hc, hf⟩ := zz hb; first | (have hz := zp hb; have hB := zd hb) | (have hz := Nat.lt_of_lt_of_le (by assumption) hb.size; have hB := zc (w := w) (by assumption) hb) | (have hB := zc (w := w) (by assumption) hb) | (have hB : Below w.heap.size w w' := hb))
 go_ret2
 exact ⟨zjg (by omega) rfl, hB⟩
theorem ziu (k s n : Int) (w : World) (h : hOk k s n = false) :
 Calls Tryz.prog 131 #[.agg #[.int .i64 k, .int .i64 s, .int .i64 n]] w fun e w' => e = .returned (.tuple #[.int .u64 0, .bool false]) /\ Below w.heap.size w w' := by
 go_enter Tryz.func131, Tryz.ntmps131
 go_wp2_with (go_at_call 99; refine (zap _ _ _ _).mono ?_; rintro e w' ⟨rfl, hb⟩; obtain ⟨hc, hf⟩ := zz hb; first | (have hz := zp hb; have hB := zd hb) | (have hz := Nat.lt_of_lt_of_le (by assumption) hb.size; have hB := zc (w := w) (by assumption) hb) | (have hB := zc (w := w) (by assumption) hb) | (have hB : Below w.heap.size w w' := hb))
 go_ret2
 exact ⟨rfl, hB⟩
theorem zhm (x : Int) (w : World) (h0 : 9223372036854775808 <= x) (h1 : x <= 9223372039002259455) :
 Calls Tryz.prog 100 #[.int .u64 x] w fun e w' => e = .returned (.tuple #[.int .i64 (x - 9223372036854775808), .bool true]) /\ w' = w := by
 have e1 := (by omega : x / 9223372036854775808 = 1)
 have e2 := zol x (by omega) (by omega)
 have e3 : x % 9223372036854775808 = x - 9223372036854775808 := by omega
 rw [e3] at e2
 clear e3
 have e4 : x - 9223372036854775808 <= 2147483647 := by omega
 go_enter Tryz.func100, Tryz.ntmps100
 go_wp2
 go_ret2
 exact ⟨zjg (by first | rfl | omega) rfl, rfl⟩
theorem zhn (x : Int) (w : World) (h0 : 0 <= x) (h1 : x < 9223372036854775808) :
 Calls Tryz.prog 100 #[.int .u64 x] w fun e w' => e = .returned (.tuple #[.int .i64 0, .bool false]) /\ w' = w := by
 have e1 := (by omega : x / 9223372036854775808 = 0)
 go_enter Tryz.func100, Tryz.ntmps100
 go_wp2
 go_ret2
 exact ⟨rfl, rfl⟩
theorem zho (x : Int) (w : World) (h0 : 9223372039002259455 < x) (h1 : x < 18446744073709551616) :
 Calls Tryz.prog 100 #[.int .u64 x] w fun e w' => e = .returned (.tuple #[.int .i64 0, .bool false]) /\ w' = w := by
 have e1 := (by omega : x / 9223372036854775808 = 1)
 have e2 := zol x (by omega) (by omega)
 have e3 : x % 9223372036854775808 = x - 9223372036854775808 := by omega
 rw [e3] at e2
 clear e3
 have e4 : 2147483647 < x - 9223372036854775808 := by omega
 go_enter Tryz.func100, Tryz.ntmps100
 go_wp2
 go_ret2
 exact ⟨rfl, rfl⟩
theorem zhp (x : Int) (w : World) (h0 : 9223372036854775808 <= x) (h1 : x <= 9223372039002259455) :
 Calls Tryz.prog 158 #[.int .u64 x] w fun e w' => e = .returned (.tuple #[.int .i64 (x - 9223372036854775808), .bool true]) /\ w' = w := by
 have e1 := zqo x h0 (by omega)
 have e2 := zno x (by omega) (by omega)
 have e3 : x % 9223372036854775808 = x - 9223372036854775808 := by omega
 rw [e3] at e2
 clear e3
 have e4 : x - 9223372036854775808 <= 2147483647 := by omega
 go_enter Tryz.func158, Tryz.ntmps158
 go_wp2
 go_ret2
 exact ⟨zjg (by first | rfl | omega) rfl, rfl⟩
theorem zhq (x : Int) (w : World) (h0 : 0 <= x) (h1 : x < 9223372036854775808) :
 Calls Tryz.prog 158 #[.int .u64 x] w fun e w' => e = .returned (.tuple #[.int .i64 0, .bool false]) /\ w' = w := by
 have e1 := zua x h0 h1
 go_enter Tryz.func158, Tryz.ntmps158
 go_wp2
 go_ret2
 exact ⟨rfl, rfl⟩
theorem zhr (x : Int) (w : World) (h0 : 9223372039002259455 < x) (h1 : x < 18446744073709551616) :
 Calls Tryz.prog 158 #[.int .u64 x] w fun e w' => e = .returned (.tuple #[.int .i64 0, .bool false]) /\ w' = w := by
 have e1 := zqo x (by omega) h1
 have e2 := zno x (by omega) (by omega)
 have e3 : x % 9223372036854775808 = x - 9223372036854775808 := by omega
 rw [e3] at e2
 clear e3
 have e4 : 2147483647 < x - 9223372036854775808 := by omega
 go_enter Tryz.func158, Tryz.ntmps158
 go_wp2
 go_ret2
 exact ⟨rfl, rfl⟩
theorem zib (x : Int) (w : World) (h0 : 0 <= x) (h1 : x < 18446744073709551616) (h : hOk (x % 16) (x / 16 % 65536) (x / 1048576) = true) :
 Calls Tryz.prog 115 #[.int .u64 x] w fun e w' => e = .returned (.tuple #[.agg #[.int .i64 (x % 16), .int .i64 (x / 16 % 65536), .int .i64 (x / 1048576)], .bool true]) /\ Below w.heap.size w w' := by
 have e1 := zkn x h0 h1
 have e2 := zko (x / 16) (by omega) (by omega)
 have e3 : x / 16 / 65536 = x / 1048576 := by omega
 go_enter Tryz.func115, Tryz.ntmps115
 go_wp2_with (go_at_call 146; refine (zgb _ _ _ _).mono ?_; rintro e w' ⟨rfl, hb⟩; obtain ⟨hc, hf⟩ := zz hb; first | (have hz := zp hb; have hB := zd hb) | (have hz := Nat.lt_of_lt_of_le (by assumption) hb.size; have hB := zc (w := w) (by assumption) hb) | (have hB := zc (w := w) (by assumption) hb) | (have hB : Below w.heap.size w w' := hb))
 have q0 : (w'.cell? ⟨w.heap.size, 0, none⟩).isSome = true := by rw [hc _ _ (by simp; omega)]; simp [go_sem]
 have q1 : (w'.cell? ⟨w.heap.size, 1, none⟩).isSome = true := by rw [hc _ _ (by simp; omega)]; simp [go_sem]
 have q2 : (w'.cell? ⟨w.heap.size, 2, none⟩).isSome = true := by rw [hc _ _ (by simp; omega)]; simp [go_sem]
 refine bodyPost_ret (v := .tuple #[.agg #[.int .i64 (x % 16), .int .i64 (x / 16 % 65536), .int .i64 (x / 1048576)], .bool true]) (by simp [results, Tryz.results115, go_sem, q0, q1, q2]) rfl ⟨rfl, ?_⟩
 exact (((zd hB).setCell (by simp) _).setCell (by simp) _).setCell (by simp) _
theorem zic (x : Int) (w : World) (h0 : 0 <= x) (h1 : x < 18446744073709551616) (h : hOk (x % 16) (x / 16 % 65536) (x / 1048576) = true) :
 Calls Tryz.prog 98 #[.int .u64 x] w fun e w' => e = .returned (.tuple #[.agg #[.int .i64 (x % 16), .int .i64 (x / 16 % 65536), .int .i64 (x / 1048576)], .bool true]) /\ Below w.heap.size w w' := by
 have e1 := zkn x h0 h1
 have e2 := zko (x / 16) (by omega) (by omega)
 have e3 := ztf (x / 1048576) (by omega) (by omega)
 have hbd := zit h
 have e4 : x / 1048576 % 4294967296 = x / 1048576 := by omega
 clear hbd
 rw [e4] at e3
 clear e4
 have e5 : x % 16 + x / 16 % 65536 * 16 + x / 1048576 * 1048576 = x := by omega
 go_enter Tryz.func98, Tryz.ntmps98
 go_wp2_with (go_at_call 131; refine (zfh _ _ _ _ h).mono ?_; rintro e w' ⟨rfl, hb⟩; obtain ⟨hc, hf⟩ := zz hb; first | (have hz := zp hb; have hB := zd hb) | (have hz := Nat.lt_of_lt_of_le (by assumption) hb.size; have hB := zc (w := w) (by assumption) hb) | (have hB := zc (w := w) (by assumption) hb) | (have hB : Below w.heap.size w w' := hb))
 have q0 : (w'.cell? ⟨w.heap.size, 0, none⟩).isSome = true := by rw [hc _ _ (by simp; omega)]; simp [go_sem]
 have q1 : (w'.cell? ⟨w.heap.size, 1, none⟩).isSome = true := by rw [hc _ _ (by simp; omega)]; simp [go_sem]
 have q2 : (w'.cell? ⟨w.heap.size, 2, none⟩).isSome = true := by rw [hc _ _ (by simp; omega)]; simp [go_sem]
 refine bodyPost_ret (v := .tuple #[.agg #[.int .i64 (x % 16), .int .i64 (x / 16 % 65536), .int .i64 (x / 1048576)], .bool true]) (by simp [results, Tryz.results98, go_sem, q0, q1, q2]) rfl ⟨rfl, ?_⟩
 exact (((zd hB).setCell (by simp) _).setCell (by simp) _).setCell (by simp) _
theorem zir (x : Int) (w : World) (h0 : 0 <= x) (h1 : x < 18446744073709551616) (h : hOk (x % 16) (x / 16 % 65536) (x / 1048576) = false) :
 Calls Tryz.prog 115 #[.int .u64 x] w fun e w' => e = .returned (.tuple #[.agg #[.int .i64 0, .int .i64 0, .int .i64 0], .bool false]) /\ Below w.heap.size w w' := by
 have e1 := zkn x h0 h1
 have e2 := zko (x / 16) (by omega) (by omega)
 have e3 : x / 16 / 65536 = x / 1048576 := by omega
 go_enter Tryz.func115, Tryz.ntmps115
 go_wp2_with (go_at_call 146; refine (zgb _ _ _ _).mono ?_; rintro e w' ⟨rfl, hb⟩; obtain ⟨hc, hf⟩ := zz hb; first | (have hz := zp hb; have hB := zd hb) | (have hz := Nat.lt_of_lt_of_le (by assumption) hb.size; have hB := zc (w := w) (by assumption) hb) | (have hB := zc (w := w) (by assumption) hb) | (have hB : Below w.heap.size w w' := hb))
 have q0 : (w'.cell? ⟨w.heap.size, 0, none⟩).isSome = true := by rw [hc _ _ (by simp; omega)]; simp [go_sem]
 have q1 : (w'.cell? ⟨w.heap.size, 1, none⟩).isSome = true := by rw [hc _ _ (by simp; omega)]; simp [go_sem]
 have q2 : (w'.cell? ⟨w.heap.size, 2, none⟩).isSome = true := by rw [hc _ _ (by simp; omega)]; simp [go_sem]
 refine bodyPost_ret (v := .tuple #[.agg #[.int .i64 0, .int .i64 0, .int .i64 0], .bool false]) (by simp [results, Tryz.results115, go_sem, q0, q1, q2]) rfl ⟨rfl, ?_⟩
 exact (((zd hB).setCell (by simp) _).setCell (by simp) _).setCell (by simp) _
theorem zis (x : Int) (w : World) (h0 : 0 <= x) (h1 : x < 18446744073709551616) (h : hOk (x % 16) (x / 16 % 65536) (x / 1048576) = false) :
 Calls Tryz.prog 98 #[.int .u64 x] w fun e w' => e = .returned (.tuple #[.agg #[.int .i64 0, .int .i64 0, .int .i64 0], .bool false]) /\ Below w.heap.size w w' := by
 have e1 := zkn x h0 h1
 have e2 := zko (x / 16) (by omega) (by omega)
 have e3 := ztf (x / 1048576) (by omega) (by omega)
 by_cases g : hOk (x % 16) (x / 16 % 65536) (x / 1048576 % 4294967296) = true
 · have hn : ¬ x / 1048576 % 4294967296 = x / 1048576 := by
    intro e
    rw [e, h] at g
    exact absurd g (by decide)
   have e5 : (x % 16 + x / 16 % 65536 * 16 + x / 1048576 % 4294967296 * 1048576 == x) = false := by
    rw [beq_eq_false_iff_ne]
    omega
   clear hn h
   go_enter Tryz.func98, Tryz.ntmps98
   go_wp2_with (go_at_call 131; refine (zfh _ _ _ _ g).mono ?_; rintro e w' ⟨rfl, hb⟩; obtain ⟨hc, hf⟩ := zz hb; first | (have hz := zp hb; have hB := zd hb) | (have hz := Nat.lt_of_lt_of_le (by assumption) hb.size; have hB := zc (w := w) (by assumption) hb) | (have hB := zc (w := w) (by assumption) hb) | (have hB : Below w.heap.size w w' := hb))
   have q0 : (w'.cell? ⟨w.heap.size, 0, none⟩).isSome = true := by rw [hc _ _ (by simp; omega)]; simp [go_sem]
   have q1 : (w'.cell? ⟨w.heap.size, 1, none⟩).isSome = true := by rw [hc _ _ (by simp; omega)]; simp [go_sem]
   have q2 : (w'.cell? ⟨w.heap.size, 2, none⟩).isSome = true := by rw [hc _ _ (by simp; omega)]; simp [go_sem]
   refine bodyPost_ret (v := .tuple #[.agg #[.int .i64 0, .int .i64 0, .int .i64 0], .bool false]) (by simp [results, Tryz.results98, go_sem, q0, q1, q2]) rfl ⟨rfl, ?_⟩
   exact (((zd hB).setCell (by simp) _).setCell (by simp) _).setCell (by simp) _
 · rw [Bool.not_eq_true] at g
   clear h
   go_enter Tryz.func98, Tryz.ntmps98
   go_wp2_with (go_at_call 131; refine (ziu _ _ _ _ g).mono ?_; rintro e w' ⟨rfl, hb⟩; obtain ⟨hc, hf⟩ := zz hb; first | (have hz := zp hb; have hB := zd hb) | (have hz := Nat.lt_of_lt_of_le (by assumption) hb.size; have hB := zc (w := w) (by assumption) hb) | (have hB := zc (w := w) (by assumption) hb) | (have hB : Below w.heap.size w w' := hb))
   have q0 : (w'.cell? ⟨w.heap.size, 0, none⟩).isSome = true := by rw [hc _ _ (by simp; omega)]; simp [go_sem]
   have q1 : (w'.cell? ⟨w.heap.size, 1, none⟩).isSome = true := by rw [hc _ _ (by simp; omega)]; simp [go_sem]
   have q2 : (w'.cell? ⟨w.heap.size, 2, none⟩).isSome = true := by rw [hc _ _ (by simp; omega)]; simp [go_sem]
   refine bodyPost_ret (v := .tuple #[.agg #[.int .i64 0, .int .i64 0, .int .i64 0], .bool false]) (by simp [results, Tryz.results98, go_sem, q0, q1, q2]) rfl ⟨rfl, ?_⟩
   exact (((zd hB).setCell (by simp) _).setCell (by simp) _).setCell (by simp) _
end Go.Proofs.YtmckcnmlhgpnhaaGreat
