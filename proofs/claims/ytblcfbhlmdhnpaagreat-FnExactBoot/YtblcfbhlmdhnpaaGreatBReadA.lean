/- - -/
import Derived.Test.YtblcfbhlmdhnpaaGreatBHeadA
import Derived.Laws.BitsAllLaws
namespace Go.Proofs.YtblcfbhlmdhnpaaGreat
set_option maxRecDepth 20000
open Go.RowKit
set_option linter.unusedSimpArgs false
theorem zct {k s n : Int} (h : hOk k s n = true) : 1 <= k /\ k <= 6 /\ 1 <= s /\ s <= 256 /\ 0 <= n /\ n <= 1000000000 := by
 rw [zb4] at h
 unfold HOk at h
 rcases h with h | h | h | h | h | h <;> omega
theorem zfh {k : IntKind} {a b : Int} {x y : Bool} (h : a = b) (h' : x = y) : Ending.returned (.tuple #[.int k a, .bool x]) = .returned (.tuple #[.int k b, .bool y]) := by rw [h, h']
theorem zfi (a b : Int) (i : Nat) (ha : 0 <= a) (ha' : a < 18446744073709551616) (hb : 0 <= b) (hi : i <= 63) (h : a % ((2 ^ i : Nat) : Int) = 0) (hb' : b < ((2 ^ i : Nat) : Int)) : bits .or .u64 a b = a + b := by
 have hp : 2 ^ i <= 2 ^ 63 := Nat.pow_le_pow_right (by omega) hi
 rw [u64_or a b ha ha' hb (by omega)]
 obtain ⟨n, rfl⟩ := Int.eq_ofNat_of_zero_le ha
 obtain ⟨m, rfl⟩ := Int.eq_ofNat_of_zero_le hb
 simp only [Int.toNat_natCast]
 rw [nat_join i n m (by omega) (by omega)]
 omega
theorem za3 (k s n : Int) (w : World) (h : hOk k s n = true) :
 Calls Tryz.prog 47 #[.agg #[.int .i64 k, .int .i64 s, .int .i64 n]] w fun e w' => e = .returned (.tuple #[.int .u64 (k + s * 16 + n * 1048576), .bool true]) /\ Below w.heap.size w w' := by
 obtain ⟨h1, h2, h3, h4, h5, h6⟩ := zct h
 go_enter Tryz.func47, Tryz.ntmps47
 go_wp2_with (go_at_call 80; refine (zc2 _ _ _ _).mono ?_; rintro e w' ⟨rfl, hb⟩; obtain ⟨hc, hf⟩ := ze hb; first | (have hz := zcp hb; have hB := zw hb) | (have hz := Nat.lt_of_lt_of_le (by assumption) hb.size; have hB := zb (w := w) (by assumption) hb) | (have hB := zb (w := w) (by assumption) hb) | (have hB : Below w.heap.size w w' := hb))
 go_ret2
 exact ⟨zfh (by omega) rfl, hB⟩
theorem zce (k s n : Int) (w : World) (h : hOk k s n = true) :
 Calls Tryz.prog 120 #[.agg #[.int .i64 k, .int .i64 s, .int .i64 n]] w fun e w' => e = .returned (.tuple #[.int .u64 (k + s * 16 + n * 1048576), .bool true]) /\ Below w.heap.size w w' := by
 obtain ⟨h1, h2, h3, h4, h5, h6⟩ := zct h
 have j1 := zfi (n * 65536) s 16 (by omega) (by omega) (by omega) (by omega) (by show _ % (65536 : Int) = 0; omega) (by show s < (65536 : Int); omega)
 have j2 := zfi ((n * 65536 + s) * 16) k 4 (by omega) (by omega) (by omega) (by omega) (by show _ % (16 : Int) = 0; omega) (by show k < (16 : Int); omega)
 go_enter Tryz.func120, Tryz.ntmps120
 go_wp2_with (go_at_call 125; refine (zc3 _ _ _ _).mono ?_; rintro e w' ⟨rfl, hb⟩; obtain ⟨hc, hf⟩ := ze hb; first | (have hz := zcp hb; have hB := zw hb) | (have hz := Nat.lt_of_lt_of_le (by assumption) hb.size; have hB := zb (w := w) (by assumption) hb) | (have hB := zb (w := w) (by assumption) hb) | (have hB : Below w.heap.size w w' := hb))
 go_ret2
 exact ⟨zfh (by omega) rfl, hB⟩
end Go.Proofs.YtblcfbhlmdhnpaaGreat
