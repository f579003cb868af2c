/- - -/
import Derived.Test.YtmckcnmlhgpnhaaGreatWSvB
namespace Go.Proofs.YtmckcnmlhgpnhaaGreat
set_option maxRecDepth 20000
open Go.RowKit
set_option linter.unusedSimpArgs false
set_option linter.unusedVariables false
theorem zvi (v : Value) (s t n : Int) (w : World) : Calls Tryz.prog 243 #[v, .int .i64 s, .agg #[.int .i64 t, .int .i64 n]] w fun e w' => e = .returned (.bool false) /\ Below w.heap.size w w' := by
 go_enter Tryz.func243, Tryz.ntmps243
 go_wp2
 go_ret
 first
  | exact ⟨rfl, zd (Below.refl _ _)⟩
  | exact ⟨rfl, Below.refl _ _⟩
theorem zvj (v : Value) (s t n : Int) (w : World) : Calls Tryz.prog 246 #[v, .int .i64 s, .agg #[.int .i64 t, .int .i64 n]] w fun e w' => e = .returned (.bool ((t == 0) || (t == 8))) /\ Below w.heap.size w w' := by
 cases e0 : (t == 0) <;> cases e1 : (t == 8)
 all_goals
  go_enter Tryz.func246, Tryz.ntmps246
  go_wp2
  go_ret
  exact ⟨rfl, zd (Below.refl _ _)⟩
theorem zvk (v : Value) (s t n : Int) (w : World) : Calls Tryz.prog 249 #[v, .int .i64 s, .agg #[.int .i64 t, .int .i64 n]] w fun e w' => e = .returned (.bool ((t != 9) && (t != 8))) /\ Below w.heap.size w w' := by
 cases e0 : (t != 9) <;> cases e1 : (t != 8)
 all_goals
  go_enter Tryz.func249, Tryz.ntmps249
  go_wp2
  go_ret
  exact ⟨rfl, zd (Below.refl _ _)⟩
theorem zvl (v : Value) (s t n : Int) (w : World) : Calls Tryz.prog 252 #[v, .int .i64 s, .agg #[.int .i64 t, .int .i64 n]] w fun e w' => e = .returned (.bool (t == 9)) /\ Below w.heap.size w w' := by
 cases e0 : (t == 9)
 all_goals
  go_enter Tryz.func252, Tryz.ntmps252
  go_wp2
  go_ret
  exact ⟨rfl, zd (Below.refl _ _)⟩
theorem zvm (v : Value) (s t n : Int) (w : World) : Calls Tryz.prog 255 #[v, .int .i64 s, .agg #[.int .i64 t, .int .i64 n]] w fun e w' => e = .returned (.bool (t != 8)) /\ Below w.heap.size w w' := by
 cases e0 : (t != 8)
 all_goals
  go_enter Tryz.func255, Tryz.ntmps255
  go_wp2
  go_ret
  exact ⟨rfl, zd (Below.refl _ _)⟩
theorem zvn (v : Value) (w : World) : Calls Tryz.prog 247 #[v] w fun e w' => e = .returned (.bool true) /\ w' = w := by
 go_enter Tryz.func247, Tryz.ntmps247
 go_wp2
 go_ret
 exact ⟨rfl, rfl⟩
theorem zvo (v : Value) (w : World) : Calls Tryz.prog 250 #[v] w fun e w' => e = .returned (.bool true) /\ w' = w := by
 go_enter Tryz.func250, Tryz.ntmps250
 go_wp2
 go_ret
 exact ⟨rfl, rfl⟩
theorem zvp (v : Value) (w : World) : Calls Tryz.prog 256 #[v] w fun e w' => e = .returned (.bool true) /\ w' = w := by
 go_enter Tryz.func256, Tryz.ntmps256
 go_wp2
 go_ret
 exact ⟨rfl, rfl⟩
theorem znf (v : Value) (w : World) : Sem.run Tryz.prog (method 372 220 v "loop.example/g00101/impl.wordsOk") w = .ok (244, v) w := by kernel_rfl
theorem zng (v : Value) (w : World) : Sem.run Tryz.prog (method 372 220 v "loop.example/g00101/impl.mayHold") w = .ok (243, v) w := by kernel_rfl
theorem znh (v : Value) (w : World) : Sem.run Tryz.prog (method 372 221 v "loop.example/g00101/impl.wordsOk") w = .ok (247, v) w := by kernel_rfl
theorem zni (v : Value) (w : World) : Sem.run Tryz.prog (method 372 221 v "loop.example/g00101/impl.mayHold") w = .ok (246, v) w := by kernel_rfl
theorem znj (v : Value) (w : World) : Sem.run Tryz.prog (method 372 222 v "loop.example/g00101/impl.wordsOk") w = .ok (250, v) w := by kernel_rfl
theorem znk (v : Value) (w : World) : Sem.run Tryz.prog (method 372 222 v "loop.example/g00101/impl.mayHold") w = .ok (249, v) w := by kernel_rfl
theorem znl (v : Value) (w : World) : Sem.run Tryz.prog (method 372 223 v "loop.example/g00101/impl.wordsOk") w = .ok (253, v) w := by kernel_rfl
theorem znm (v : Value) (w : World) : Sem.run Tryz.prog (method 372 223 v "loop.example/g00101/impl.mayHold") w = .ok (252, v) w := by kernel_rfl
theorem znn (v : Value) (w : World) : Sem.run Tryz.prog (method 372 224 v "loop.example/g00101/impl.wordsOk") w = .ok (256, v) w := by kernel_rfl
theorem zno (v : Value) (w : World) : Sem.run Tryz.prog (method 372 224 v "loop.example/g00101/impl.mayHold") w = .ok (255, v) w := by kernel_rfl
theorem znp (v : Value) (w : World) : Sem.run Tryz.prog (method 372 225 v "loop.example/g00101/impl.wordsOk") w = .ok (259, v) w := by kernel_rfl
theorem znq (v : Value) (w : World) : Sem.run Tryz.prog (method 372 225 v "loop.example/g00101/impl.mayHold") w = .ok (258, v) w := by kernel_rfl
theorem zvq (b off n cap : Nat) (x : Int) (w : World) (hn : 1 <= n) (hx : w.cell? ⟨b, off, none⟩ = some (.int .u64 x)) : Calls Tryz.prog 253 #[.slice (some ⟨b, off, none⟩) n cap] w fun e w' => e = .returned (.bool (decide (x <= 255))) /\ w' = w := by
 have hn' : (0 : Int) < (n : Int) := by omega
 go_enter Tryz.func253, Tryz.ntmps253
 go_wp2
 go_ret
 exact ⟨rfl, rfl⟩
theorem zvh (b off n cap : Nat) (x0 x1 x2 x3 : Int) (w : World) (hn : 4 <= n) (h0 : w.cell? ⟨b, off, none⟩ = some (.int .u64 x0)) (h1 : w.cell? ⟨b, off + 1, none⟩ = some (.int .u64 x1)) (h2 : w.cell? ⟨b, off + 2, none⟩ = some (.int .u64 x2)) (h3 : w.cell? ⟨b, off + 3, none⟩ = some (.int .u64 x3)) :
 Calls Tryz.prog 259 #[.slice (some ⟨b, off, none⟩) n cap] w fun e w' => e = .returned (.bool (decide (x0 <= 4) && decide (x1 <= 60) && decide (x2 <= x1) && decide (x3 <= 4095))) /\ Below w.heap.size w w' := by
 have n0 : (0 : Int) < (n : Int) := by omega
 have n1 : (1 : Int) < (n : Int) := by omega
 have n2 : (2 : Int) < (n : Int) := by omega
 have n3 : (3 : Int) < (n : Int) := by omega
 cases e0 : decide (x0 <= 4) <;> cases e1 : decide (x1 <= 60) <;> cases e2 : decide (x2 <= x1) <;> cases e3 : decide (x3 <= 4095)
 all_goals
  go_enter Tryz.func259, Tryz.ntmps259
  go_wp2
  go_quiet (fail)
  go_wp2
  go_ret
  exact ⟨rfl, below_drewN (Below.refl _ _) _⟩
theorem zkx (v : Value) (s t n : Int) (w : World) (hs : (s == 0) = true) : Calls Tryz.prog 258 #[v, .int .i64 s, .agg #[.int .i64 t, .int .i64 n]] w fun e w' => e = .returned (.bool ((t == 0) || (t == 6))) /\ Below w.heap.size w w' := by
 cases e0 : (t == 0) <;> cases e1 : (t == 6)
 all_goals
  go_enter Tryz.func258, Tryz.ntmps258
  go_wp2
  go_ret
  exact ⟨rfl, zd (Below.refl _ _)⟩
theorem zly (b off k cap : Nat) (s t n x : Int) (w : World) (hk : 2 <= k) (hs : (s == 0) = false) (hb : b < w.heap.size) (h1 : w.cell? ⟨b, off + 1, none⟩ = some (.int .u64 x)) (hx : x < IntKind.u64.wrap s) : Calls Tryz.prog 258 #[.slice (some ⟨b, off, none⟩) k cap, .int .i64 s, .agg #[.int .i64 t, .int .i64 n]] w fun e w' => e = .returned (.bool (t == 0)) /\ Below w.heap.size w w' := by
 have n1 : (1 : Int) < (k : Int) := by omega
 have q := fun o => zx (o := o) hb h1
 go_enter Tryz.func258, Tryz.ntmps258
 go_wp2
 go_ret
 exact ⟨rfl, zd (Below.refl _ _)⟩
theorem zo9 (b off k cap : Nat) (s t n x : Int) (w : World) (hk : 2 <= k) (hs : (s == 0) = false) (hb : b < w.heap.size) (h1 : w.cell? ⟨b, off + 1, none⟩ = some (.int .u64 x)) (hx : decide (x < IntKind.u64.wrap s) = false) : Calls Tryz.prog 258 #[.slice (some ⟨b, off, none⟩) k cap, .int .i64 s, .agg #[.int .i64 t, .int .i64 n]] w fun e w' => e = .returned (.bool (t != 8)) /\ Below w.heap.size w w' := by
 have n1 : (1 : Int) < (k : Int) := by omega
 have q := fun o => zx (o := o) hb h1
 go_enter Tryz.func258, Tryz.ntmps258
 go_wp2
 go_ret
 exact ⟨rfl, zd (Below.refl _ _)⟩
theorem znc (n : Int) (w : World) (h0 : 0 <= n) (h1 : n <= 160) : Calls Tryz.prog 208 #[.int .i64 n] w fun e w' => e = .returned (.int .i64 (1 + (n + 7) / 8)) /\ w' = w := by
 go_enter Tryz.func208, Tryz.ntmps208
 go_wp2
 go_ret
 refine ⟨zby ?_, rfl⟩
 go_light
 try omega
theorem zgn (n m : Int) (w : World) (h0 : 0 <= n) (h1 : n <= 160) (hm : 1 + (n + 7) / 8 = m) : Calls Tryz.prog 208 #[.int .i64 n] w fun e w' => e = .returned (.int .i64 m) /\ w' = w := by
 subst hm; exact znc n w h0 h1
theorem znd (b off k cap : Nat) (x : Int) (w : World) (hk : 1 <= k) (h0 : w.cell? ⟨b, off, none⟩ = some (.int .u64 x)) (hx : 160 < x) : Calls Tryz.prog 244 #[.slice (some ⟨b, off, none⟩) k cap] w fun e w' => e = .returned (.bool false) /\ w' = w := by
 have n0 : (0 : Int) < (k : Int) := by omega
 go_enter Tryz.func244, Tryz.ntmps244
 go_wp2
 go_ret
 exact ⟨rfl, rfl⟩
theorem zlw (b off k cap : Nat) (x m : Int) (w : World) (hk : 1 <= k) (h0 : w.cell? ⟨b, off, none⟩ = some (.int .u64 x)) (x0 : 0 <= x) (x1 : x <= 160) (hm : 1 + (x + 7) / 8 = m) (hne : (m != (k : Int)) = true) : Calls Tryz.prog 244 #[.slice (some ⟨b, off, none⟩) k cap] w fun e w' => e = .returned (.bool false) /\ w' = w := by
 have n0 : (0 : Int) < (k : Int) := by omega
 have hd : decide (160 < x) = false := decide_eq_false (by omega)
 have HM : Hid (1 + (x + 7) / 8 = m) := hm
 have hwx : wrap64 x = x := za8 x0 (by omega)
 clear hm
 go_enter Tryz.func244, Tryz.ntmps244
 go_wp2_with (go_at_call 208; refine (zgn _ m _ (by first | exact x0 | (rw [hwx]; exact x0)) (by first | exact x1 | (rw [hwx]; exact x1)) (by first | exact HM.out | (rw [hwx]; exact HM.out))).mono ?_; rintro e w1 ⟨rfl, rfl⟩)
 go_ret
 exact ⟨rfl, rfl⟩
theorem zlx (b off k cap : Nat) (x m : Int) (w : World) (hk : 1 <= k) (h0 : w.cell? ⟨b, off, none⟩ = some (.int .u64 x)) (x0 : 0 <= x) (x1 : x <= 160) (hm : 1 + (x + 7) / 8 = m) (hne : (m != (k : Int)) = false) (hr : x.tmod 8 = 0) : Calls Tryz.prog 244 #[.slice (some ⟨b, off, none⟩) k cap] w fun e w' => e = .returned (.bool true) /\ w' = w := by
 have n0 : (0 : Int) < (k : Int) := by omega
 have hd : decide (160 < x) = false := decide_eq_false (by omega)
 have HM : Hid (1 + (x + 7) / 8 = m) := hm
 have hwx : wrap64 x = x := za8 x0 (by omega)
 clear hm
 go_enter Tryz.func244, Tryz.ntmps244
 go_wp2_with (go_at_call 208; refine (zgn _ m _ (by first | exact x0 | (rw [hwx]; exact x0)) (by first | exact x1 | (rw [hwx]; exact x1)) (by first | exact HM.out | (rw [hwx]; exact HM.out))).mono ?_; rintro e w1 ⟨rfl, rfl⟩)
 go_ret
 exact ⟨rfl, rfl⟩
theorem zne (b off k cap : Nat) (x m r y : Int) (w : World) (hk : 1 <= k) (hk2 : k <= 1048576) (h0 : w.cell? ⟨b, off, none⟩ = some (.int .u64 x)) (h1 : w.cell? ⟨b, off + (k - 1), none⟩ = some (.int .u64 y)) (y0 : 0 <= y) (y1 : y < 18446744073709551616) (x0 : 0 <= x) (x1 : x <= 160) (hm : 1 + (x + 7) / 8 = m) (hne : (m != (k : Int)) = false) (hr : x.tmod 8 = r) (r0 : 1 <= r) (r1 : r <= 7) : Calls Tryz.prog 244 #[.slice (some ⟨b, off, none⟩) k cap] w fun e w' => e = .returned (.bool (decide (y / 2 ^ (8 * r).toNat = 0))) /\ w' = w := by
 have n0 : (0 : Int) < (k : Int) := by omega
 have hd : decide (160 < x) = false := decide_eq_false (by omega)
 have HM : Hid (1 + (x + 7) / 8 = m) := hm
 have hwx : wrap64 x = x := za8 x0 (by omega)
 have i0 : 0 <= (k : Int) - 1 := by omega
 have i1 : (k : Int) - 1 < (k : Int) := by omega
 have i2 : ((k : Int) - 1).toNat = k - 1 := by omega
 have hk2' : (k : Int) <= 1048576 := by omega
 clear hm
 have hrr : r = 1 \/ r = 2 \/ r = 3 \/ r = 4 \/ r = 5 \/ r = 6 \/ r = 7 := by omega
 rcases hrr with rfl | rfl | rfl | rfl | rfl | rfl | rfl
 all_goals
  go_enter Tryz.func244, Tryz.ntmps244
  go_wp2_with (go_at_call 208; refine (zgn _ m _ (by first | exact x0 | (rw [hwx]; exact x0)) (by first | exact x1 | (rw [hwx]; exact x1)) (by first | exact HM.out | (rw [hwx]; exact HM.out))).mono ?_; rintro e w1 ⟨rfl, rfl⟩)
  go_ret
  refine ⟨zbh ?_, rfl⟩
  go_light
 all_goals rfl
end Go.Proofs.YtmckcnmlhgpnhaaGreat
