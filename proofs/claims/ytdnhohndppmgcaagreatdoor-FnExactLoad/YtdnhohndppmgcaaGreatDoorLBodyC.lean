/- - -/
import Derived.Test.YtdnhohndppmgcaaGreatDoorLSvB
namespace Go.Proofs.YtdnhohndppmgcaaGreatDoor
set_option maxRecDepth 20000
open Go.RowKit
set_option linter.unusedSimpArgs false
set_option linter.unusedVariables false
theorem zu3 (v : Value) (s t n : Int) (w : World) : Calls Tryz.prog 257 #[v, .int .i64 s, .agg #[.int .i64 t, .int .i64 n]] w fun e w' => e = .returned (.bool false) /\ Below w.heap.size w w' := by
 go_enter Tryz.func257, Tryz.ntmps257
 go_wp2
 go_ret
 first
  | exact ⟨rfl, ze (Below.refl _ _)⟩
  | exact ⟨rfl, Below.refl _ _⟩
theorem zu4 (v : Value) (s t n : Int) (w : World) : Calls Tryz.prog 260 #[v, .int .i64 s, .agg #[.int .i64 t, .int .i64 n]] w fun e w' => e = .returned (.bool ((t == 0) || (t == 8))) /\ Below w.heap.size w w' := by
 cases e0 : (t == 0) <;> cases e1 : (t == 8)
 all_goals
  go_enter Tryz.func260, Tryz.ntmps260
  go_wp2
  go_ret
  exact ⟨rfl, ze (Below.refl _ _)⟩
theorem zu5 (v : Value) (s t n : Int) (w : World) : Calls Tryz.prog 263 #[v, .int .i64 s, .agg #[.int .i64 t, .int .i64 n]] w fun e w' => e = .returned (.bool ((t != 9) && (t != 8))) /\ Below w.heap.size w w' := by
 cases e0 : (t != 9) <;> cases e1 : (t != 8)
 all_goals
  go_enter Tryz.func263, Tryz.ntmps263
  go_wp2
  go_ret
  exact ⟨rfl, ze (Below.refl _ _)⟩
theorem zu6 (v : Value) (s t n : Int) (w : World) : Calls Tryz.prog 266 #[v, .int .i64 s, .agg #[.int .i64 t, .int .i64 n]] w fun e w' => e = .returned (.bool (t == 9)) /\ Below w.heap.size w w' := by
 cases e0 : (t == 9)
 all_goals
  go_enter Tryz.func266, Tryz.ntmps266
  go_wp2
  go_ret
  exact ⟨rfl, ze (Below.refl _ _)⟩
theorem zu7 (v : Value) (s t n : Int) (w : World) : Calls Tryz.prog 269 #[v, .int .i64 s, .agg #[.int .i64 t, .int .i64 n]] w fun e w' => e = .returned (.bool (t != 8)) /\ Below w.heap.size w w' := by
 cases e0 : (t != 8)
 all_goals
  go_enter Tryz.func269, Tryz.ntmps269
  go_wp2
  go_ret
  exact ⟨rfl, ze (Below.refl _ _)⟩
theorem zu8 (v : Value) (w : World) : Calls Tryz.prog 261 #[v] w fun e w' => e = .returned (.bool true) /\ w' = w := by
 go_enter Tryz.func261, Tryz.ntmps261
 go_wp2
 go_ret
 exact ⟨rfl, rfl⟩
theorem zu9 (v : Value) (w : World) : Calls Tryz.prog 264 #[v] w fun e w' => e = .returned (.bool true) /\ w' = w := by
 go_enter Tryz.func264, Tryz.ntmps264
 go_wp2
 go_ret
 exact ⟨rfl, rfl⟩
theorem zva (v : Value) (w : World) : Calls Tryz.prog 270 #[v] w fun e w' => e = .returned (.bool true) /\ w' = w := by
 go_enter Tryz.func270, Tryz.ntmps270
 go_wp2
 go_ret
 exact ⟨rfl, rfl⟩
theorem znf (v : Value) (w : World) : Sem.run Tryz.prog (method 344 206 v "loop.example/g00101/impl.wordsOk") w = .ok (258, v) w := by kernel_rfl
theorem zng (v : Value) (w : World) : Sem.run Tryz.prog (method 344 206 v "loop.example/g00101/impl.mayHold") w = .ok (257, v) w := by kernel_rfl
theorem znh (v : Value) (w : World) : Sem.run Tryz.prog (method 344 207 v "loop.example/g00101/impl.wordsOk") w = .ok (261, v) w := by kernel_rfl
theorem zni (v : Value) (w : World) : Sem.run Tryz.prog (method 344 207 v "loop.example/g00101/impl.mayHold") w = .ok (260, v) w := by kernel_rfl
theorem znj (v : Value) (w : World) : Sem.run Tryz.prog (method 344 208 v "loop.example/g00101/impl.wordsOk") w = .ok (264, v) w := by kernel_rfl
theorem znk (v : Value) (w : World) : Sem.run Tryz.prog (method 344 208 v "loop.example/g00101/impl.mayHold") w = .ok (263, v) w := by kernel_rfl
theorem znl (v : Value) (w : World) : Sem.run Tryz.prog (method 344 209 v "loop.example/g00101/impl.wordsOk") w = .ok (267, v) w := by kernel_rfl
theorem znm (v : Value) (w : World) : Sem.run Tryz.prog (method 344 209 v "loop.example/g00101/impl.mayHold") w = .ok (266, v) w := by kernel_rfl
theorem znn (v : Value) (w : World) : Sem.run Tryz.prog (method 344 210 v "loop.example/g00101/impl.wordsOk") w = .ok (270, v) w := by kernel_rfl
theorem zno (v : Value) (w : World) : Sem.run Tryz.prog (method 344 210 v "loop.example/g00101/impl.mayHold") w = .ok (269, v) w := by kernel_rfl
theorem znp (v : Value) (w : World) : Sem.run Tryz.prog (method 344 211 v "loop.example/g00101/impl.wordsOk") w = .ok (273, v) w := by kernel_rfl
theorem znq (v : Value) (w : World) : Sem.run Tryz.prog (method 344 211 v "loop.example/g00101/impl.mayHold") w = .ok (272, v) w := by kernel_rfl
theorem zvb (b off n cap : Nat) (x : Int) (w : World) (hn : 1 <= n) (hx : w.cell? ⟨b, off, none⟩ = some (.int .u64 x)) : Calls Tryz.prog 267 #[.slice (some ⟨b, off, none⟩) n cap] w fun e w' => e = .returned (.bool (decide (x <= 255))) /\ w' = w := by
 have hn' : (0 : Int) < (n : Int) := by omega
 go_enter Tryz.func267, Tryz.ntmps267
 go_wp2
 go_ret
 exact ⟨rfl, rfl⟩
theorem zu2 (b off n cap : Nat) (x0 x1 x2 x3 : Int) (w : World) (hn : 4 <= n) (h0 : w.cell? ⟨b, off, none⟩ = some (.int .u64 x0)) (h1 : w.cell? ⟨b, off + 1, none⟩ = some (.int .u64 x1)) (h2 : w.cell? ⟨b, off + 2, none⟩ = some (.int .u64 x2)) (h3 : w.cell? ⟨b, off + 3, none⟩ = some (.int .u64 x3)) :
 Calls Tryz.prog 273 #[.slice (some ⟨b, off, none⟩) n cap] w fun e w' => e = .returned (.bool (decide (x0 <= 4) && decide (x1 <= 60) && decide (x2 <= x1) && decide (x3 <= 4095))) /\ Below w.heap.size w w' := by
 have n0 : (0 : Int) < (n : Int) := by omega
 have n1 : (1 : Int) < (n : Int) := by omega
 have n2 : (2 : Int) < (n : Int) := by omega
 have n3 : (3 : Int) < (n : Int) := by omega
 cases e0 : decide (x0 <= 4) <;> cases e1 : decide (x1 <= 60) <;> cases e2 : decide (x2 <= x1) <;> cases e3 : decide (x3 <= 4095)
 all_goals
  go_enter Tryz.func273, Tryz.ntmps273
  go_wp2
  go_quiet (fail)
  go_wp2
  go_ret
  exact ⟨rfl, below_drewN (Below.refl _ _) _⟩
theorem zky (v : Value) (s t n : Int) (w : World) (hs : (s == 0) = true) : Calls Tryz.prog 272 #[v, .int .i64 s, .agg #[.int .i64 t, .int .i64 n]] w fun e w' => e = .returned (.bool ((t == 0) || (t == 6))) /\ Below w.heap.size w w' := by
 cases e0 : (t == 0) <;> cases e1 : (t == 6)
 all_goals
  go_enter Tryz.func272, Tryz.ntmps272
  go_wp2
  go_ret
  exact ⟨rfl, ze (Below.refl _ _)⟩
theorem zlw (b off k cap : Nat) (s t n x : Int) (w : World) (hk : 2 <= k) (hs : (s == 0) = false) (hb : b < w.heap.size) (h1 : w.cell? ⟨b, off + 1, none⟩ = some (.int .u64 x)) (hx : x < IntKind.u64.wrap s) : Calls Tryz.prog 272 #[.slice (some ⟨b, off, none⟩) k cap, .int .i64 s, .agg #[.int .i64 t, .int .i64 n]] w fun e w' => e = .returned (.bool (t == 0)) /\ Below w.heap.size w w' := by
 have n1 : (1 : Int) < (k : Int) := by omega
 have q := fun o => zu (o := o) hb h1
 go_enter Tryz.func272, Tryz.ntmps272
 go_wp2
 go_ret
 exact ⟨rfl, ze (Below.refl _ _)⟩
theorem zpe (b off k cap : Nat) (s t n x : Int) (w : World) (hk : 2 <= k) (hs : (s == 0) = false) (hb : b < w.heap.size) (h1 : w.cell? ⟨b, off + 1, none⟩ = some (.int .u64 x)) (hx : decide (x < IntKind.u64.wrap s) = false) : Calls Tryz.prog 272 #[.slice (some ⟨b, off, none⟩) k cap, .int .i64 s, .agg #[.int .i64 t, .int .i64 n]] w fun e w' => e = .returned (.bool (t != 8)) /\ Below w.heap.size w w' := by
 have n1 : (1 : Int) < (k : Int) := by omega
 have q := fun o => zu (o := o) hb h1
 go_enter Tryz.func272, Tryz.ntmps272
 go_wp2
 go_ret
 exact ⟨rfl, ze (Below.refl _ _)⟩
theorem znc (n : Int) (w : World) (h0 : 0 <= n) (h1 : n <= 160) : Calls Tryz.prog 178 #[.int .i64 n] w fun e w' => e = .returned (.int .i64 (1 + (n + 7) / 8)) /\ w' = w := by
 go_enter Tryz.func178, Tryz.ntmps178
 go_wp2
 go_ret
 refine ⟨zbx ?_, rfl⟩
 go_light
 try omega
theorem zgl (n m : Int) (w : World) (h0 : 0 <= n) (h1 : n <= 160) (hm : 1 + (n + 7) / 8 = m) : Calls Tryz.prog 178 #[.int .i64 n] w fun e w' => e = .returned (.int .i64 m) /\ w' = w := by
 subst hm; exact znc n w h0 h1
theorem znd (b off k cap : Nat) (x : Int) (w : World) (hk : 1 <= k) (h0 : w.cell? ⟨b, off, none⟩ = some (.int .u64 x)) (hx : 160 < x) : Calls Tryz.prog 258 #[.slice (some ⟨b, off, none⟩) k cap] w fun e w' => e = .returned (.bool false) /\ w' = w := by
 have n0 : (0 : Int) < (k : Int) := by omega
 go_enter Tryz.func258, Tryz.ntmps258
 go_wp2
 go_ret
 exact ⟨rfl, rfl⟩
theorem zlu (b off k cap : Nat) (x m : Int) (w : World) (hk : 1 <= k) (h0 : w.cell? ⟨b, off, none⟩ = some (.int .u64 x)) (x0 : 0 <= x) (x1 : x <= 160) (hm : 1 + (x + 7) / 8 = m) (hne : (m != (k : Int)) = true) : Calls Tryz.prog 258 #[.slice (some ⟨b, off, none⟩) k cap] w fun e w' => e = .returned (.bool false) /\ w' = w := by
 have n0 : (0 : Int) < (k : Int) := by omega
 have hd : decide (160 < x) = false := decide_eq_false (by omega)
 have HM : Hid (1 + (x + 7) / 8 = m) := hm
 have hwx : wrap64 x = x := zba x0 (by omega)
 clear hm
 go_enter Tryz.func258, Tryz.ntmps258
 go_wp2_with (go_at_call 178; refine (zgl _ m _ (by first | exact x0 | (rw [hwx]; exact x0)) (by first | exact x1 | (rw [hwx]; exact x1)) (by first | exact HM.out | (rw [hwx]; exact HM.out))).mono ?_; rintro e w1 ⟨rfl, rfl⟩)
 go_ret
 exact ⟨rfl, rfl⟩
theorem zlv (b off k cap : Nat) (x m : Int) (w : World) (hk : 1 <= k) (h0 : w.cell? ⟨b, off, none⟩ = some (.int .u64 x)) (x0 : 0 <= x) (x1 : x <= 160) (hm : 1 + (x + 7) / 8 = m) (hne : (m != (k : Int)) = false) (hr : x.tmod 8 = 0) : Calls Tryz.prog 258 #[.slice (some ⟨b, off, none⟩) k cap] w fun e w' => e = .returned (.bool true) /\ w' = w := by
 have n0 : (0 : Int) < (k : Int) := by omega
 have hd : decide (160 < x) = false := decide_eq_false (by omega)
 have HM : Hid (1 + (x + 7) / 8 = m) := hm
 have hwx : wrap64 x = x := zba x0 (by omega)
 clear hm
 go_enter Tryz.func258, Tryz.ntmps258
 go_wp2_with (go_at_call 178; refine (zgl _ m _ (by first | exact x0 | (rw [hwx]; exact x0)) (by first | exact x1 | (rw [hwx]; exact x1)) (by first | exact HM.out | (rw [hwx]; exact HM.out))).mono ?_; rintro e w1 ⟨rfl, rfl⟩)
 go_ret
 exact ⟨rfl, rfl⟩
theorem zne (b off k cap : Nat) (x m r y : Int) (w : World) (hk : 1 <= k) (hk2 : k <= 1048576) (h0 : w.cell? ⟨b, off, none⟩ = some (.int .u64 x)) (h1 : w.cell? ⟨b, off + (k - 1), none⟩ = some (.int .u64 y)) (y0 : 0 <= y) (y1 : y < 18446744073709551616) (x0 : 0 <= x) (x1 : x <= 160) (hm : 1 + (x + 7) / 8 = m) (hne : (m != (k : Int)) = false) (hr : x.tmod 8 = r) (r0 : 1 <= r) (r1 : r <= 7) : Calls Tryz.prog 258 #[.slice (some ⟨b, off, none⟩) k cap] w fun e w' => e = .returned (.bool (decide (y / 2 ^ (8 * r).toNat = 0))) /\ w' = w := by
 have n0 : (0 : Int) < (k : Int) := by omega
 have hd : decide (160 < x) = false := decide_eq_false (by omega)
 have HM : Hid (1 + (x + 7) / 8 = m) := hm
 have hwx : wrap64 x = x := zba x0 (by omega)
 have i0 : 0 <= (k : Int) - 1 := by omega
 have i1 : (k : Int) - 1 < (k : Int) := by omega
 have i2 : ((k : Int) - 1).toNat = k - 1 := by omega
 have hk2' : (k : Int) <= 1048576 := by omega
 clear hm
 have hrr : r = 1 \/ r = 2 \/ r = 3 \/ r = 4 \/ r = 5 \/ r = 6 \/ r = 7 := by omega
 rcases hrr with rfl | rfl | rfl | rfl | rfl | rfl | rfl
 all_goals
  go_enter Tryz.func258, Tryz.ntmps258
  go_wp2_with (go_at_call 178; refine (zgl _ m _ (by first | exact x0 | (rw [hwx]; exact x0)) (by first | exact x1 | (rw [hwx]; exact x1)) (by first | exact HM.out | (rw [hwx]; exact HM.out))).mono ?_; rintro e w1 ⟨rfl, rfl⟩)
  go_ret
  refine ⟨zbh ?_, rfl⟩
  go_light
 all_goals rfl
end Go.Proofs.YtdnhohndppmgcaaGreatDoor
