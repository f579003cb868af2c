/- - -/
import Derived.Test.YtmabjaojgdlenaaGreatRSvB
namespace Go.Proofs.YtmabjaojgdlenaaGreat
set_option maxRecDepth 20000
open Go.RowKit
set_option linter.unusedSimpArgs false
set_option linter.unusedVariables false
theorem zrp (v : Value) (s t n : Int) (w : World) : Calls Tryz.prog 154 #[v, .int .i64 s, .agg #[.int .i64 t, .int .i64 n]] w fun e w' => e = .returned (.bool false) /\ Below w.heap.size w w' := by
 go_enter Tryz.func154, Tryz.ntmps154
 go_wp2
 go_ret
 first
  | exact ⟨rfl, zc (Below.refl _ _)⟩
  | exact ⟨rfl, Below.refl _ _⟩
theorem zrq (v : Value) (s t n : Int) (w : World) : Calls Tryz.prog 157 #[v, .int .i64 s, .agg #[.int .i64 t, .int .i64 n]] w fun e w' => e = .returned (.bool ((t == 0) || (t == 8))) /\ Below w.heap.size w w' := by
 cases e0 : (t == 0) <;> cases e1 : (t == 8)
 all_goals
  go_enter Tryz.func157, Tryz.ntmps157
  go_wp2
  go_ret
  exact ⟨rfl, zc (Below.refl _ _)⟩
theorem zrr (v : Value) (s t n : Int) (w : World) : Calls Tryz.prog 160 #[v, .int .i64 s, .agg #[.int .i64 t, .int .i64 n]] w fun e w' => e = .returned (.bool ((t != 9) && (t != 8))) /\ Below w.heap.size w w' := by
 cases e0 : (t != 9) <;> cases e1 : (t != 8)
 all_goals
  go_enter Tryz.func160, Tryz.ntmps160
  go_wp2
  go_ret
  exact ⟨rfl, zc (Below.refl _ _)⟩
theorem zrs (v : Value) (s t n : Int) (w : World) : Calls Tryz.prog 163 #[v, .int .i64 s, .agg #[.int .i64 t, .int .i64 n]] w fun e w' => e = .returned (.bool (t == 9)) /\ Below w.heap.size w w' := by
 cases e0 : (t == 9)
 all_goals
  go_enter Tryz.func163, Tryz.ntmps163
  go_wp2
  go_ret
  exact ⟨rfl, zc (Below.refl _ _)⟩
theorem zrt (v : Value) (s t n : Int) (w : World) : Calls Tryz.prog 166 #[v, .int .i64 s, .agg #[.int .i64 t, .int .i64 n]] w fun e w' => e = .returned (.bool (t != 8)) /\ Below w.heap.size w w' := by
 cases e0 : (t != 8)
 all_goals
  go_enter Tryz.func166, Tryz.ntmps166
  go_wp2
  go_ret
  exact ⟨rfl, zc (Below.refl _ _)⟩
theorem zru (v : Value) (w : World) : Calls Tryz.prog 158 #[v] w fun e w' => e = .returned (.bool true) /\ w' = w := by
 go_enter Tryz.func158, Tryz.ntmps158
 go_wp2
 go_ret
 exact ⟨rfl, rfl⟩
theorem zrv (v : Value) (w : World) : Calls Tryz.prog 161 #[v] w fun e w' => e = .returned (.bool true) /\ w' = w := by
 go_enter Tryz.func161, Tryz.ntmps161
 go_wp2
 go_ret
 exact ⟨rfl, rfl⟩
theorem zrw (v : Value) (w : World) : Calls Tryz.prog 167 #[v] w fun e w' => e = .returned (.bool true) /\ w' = w := by
 go_enter Tryz.func167, Tryz.ntmps167
 go_wp2
 go_ret
 exact ⟨rfl, rfl⟩
theorem zle (v : Value) (w : World) : Sem.run Tryz.prog (method 278 133 v "loop.example/g00101/impl.wordsOk") w = .ok (155, v) w := by kernel_rfl
theorem zlf (v : Value) (w : World) : Sem.run Tryz.prog (method 278 133 v "loop.example/g00101/impl.mayHold") w = .ok (154, v) w := by kernel_rfl
theorem zlg (v : Value) (w : World) : Sem.run Tryz.prog (method 278 134 v "loop.example/g00101/impl.wordsOk") w = .ok (158, v) w := by kernel_rfl
theorem zlh (v : Value) (w : World) : Sem.run Tryz.prog (method 278 134 v "loop.example/g00101/impl.mayHold") w = .ok (157, v) w := by kernel_rfl
theorem zli (v : Value) (w : World) : Sem.run Tryz.prog (method 278 135 v "loop.example/g00101/impl.wordsOk") w = .ok (161, v) w := by kernel_rfl
theorem zlj (v : Value) (w : World) : Sem.run Tryz.prog (method 278 135 v "loop.example/g00101/impl.mayHold") w = .ok (160, v) w := by kernel_rfl
theorem zlk (v : Value) (w : World) : Sem.run Tryz.prog (method 278 136 v "loop.example/g00101/impl.wordsOk") w = .ok (164, v) w := by kernel_rfl
theorem zll (v : Value) (w : World) : Sem.run Tryz.prog (method 278 136 v "loop.example/g00101/impl.mayHold") w = .ok (163, v) w := by kernel_rfl
theorem zlm (v : Value) (w : World) : Sem.run Tryz.prog (method 278 137 v "loop.example/g00101/impl.wordsOk") w = .ok (167, v) w := by kernel_rfl
theorem zln (v : Value) (w : World) : Sem.run Tryz.prog (method 278 137 v "loop.example/g00101/impl.mayHold") w = .ok (166, v) w := by kernel_rfl
theorem zlo (v : Value) (w : World) : Sem.run Tryz.prog (method 278 138 v "loop.example/g00101/impl.wordsOk") w = .ok (170, v) w := by kernel_rfl
theorem zlp (v : Value) (w : World) : Sem.run Tryz.prog (method 278 138 v "loop.example/g00101/impl.mayHold") w = .ok (169, v) w := by kernel_rfl
theorem zrx (b off n cap : Nat) (x : Int) (w : World) (hn : 1 <= n) (hx : w.cell? ⟨b, off, none⟩ = some (.int .u64 x)) : Calls Tryz.prog 164 #[.slice (some ⟨b, off, none⟩) n cap] w fun e w' => e = .returned (.bool (decide (x <= 255))) /\ w' = w := by
 have hn' : (0 : Int) < (n : Int) := by omega
 go_enter Tryz.func164, Tryz.ntmps164
 go_wp2
 go_ret
 exact ⟨rfl, rfl⟩
theorem zro (b off n cap : Nat) (x0 x1 x2 x3 : Int) (w : World) (hn : 4 <= n) (h0 : w.cell? ⟨b, off, none⟩ = some (.int .u64 x0)) (h1 : w.cell? ⟨b, off + 1, none⟩ = some (.int .u64 x1)) (h2 : w.cell? ⟨b, off + 2, none⟩ = some (.int .u64 x2)) (h3 : w.cell? ⟨b, off + 3, none⟩ = some (.int .u64 x3)) :
 Calls Tryz.prog 170 #[.slice (some ⟨b, off, none⟩) n cap] w fun e w' => e = .returned (.bool (decide (x0 <= 4) && decide (x1 <= 60) && decide (x2 <= x1) && decide (x3 <= 4095))) /\ Below w.heap.size w w' := by
 have n0 : (0 : Int) < (n : Int) := by omega
 have n1 : (1 : Int) < (n : Int) := by omega
 have n2 : (2 : Int) < (n : Int) := by omega
 have n3 : (3 : Int) < (n : Int) := by omega
 cases e0 : decide (x0 <= 4) <;> cases e1 : decide (x1 <= 60) <;> cases e2 : decide (x2 <= x1) <;> cases e3 : decide (x3 <= 4095)
 all_goals
  go_enter Tryz.func170, Tryz.ntmps170
  go_wp2
  go_quiet (fail)
  go_wp2
  go_ret
  exact ⟨rfl, below_drewN (Below.refl _ _) _⟩
theorem zjb (v : Value) (s t n : Int) (w : World) (hs : (s == 0) = true) : Calls Tryz.prog 169 #[v, .int .i64 s, .agg #[.int .i64 t, .int .i64 n]] w fun e w' => e = .returned (.bool ((t == 0) || (t == 6))) /\ Below w.heap.size w w' := by
 cases e0 : (t == 0) <;> cases e1 : (t == 6)
 all_goals
  go_enter Tryz.func169, Tryz.ntmps169
  go_wp2
  go_ret
  exact ⟨rfl, zc (Below.refl _ _)⟩
theorem zj5 (b off k cap : Nat) (s t n x : Int) (w : World) (hk : 2 <= k) (hs : (s == 0) = false) (hb : b < w.heap.size) (h1 : w.cell? ⟨b, off + 1, none⟩ = some (.int .u64 x)) (hx : x < IntKind.u64.wrap s) : Calls Tryz.prog 169 #[.slice (some ⟨b, off, none⟩) k cap, .int .i64 s, .agg #[.int .i64 t, .int .i64 n]] w fun e w' => e = .returned (.bool (t == 0)) /\ Below w.heap.size w w' := by
 have n1 : (1 : Int) < (k : Int) := by omega
 have q := fun o => zq (o := o) hb h1
 go_enter Tryz.func169, Tryz.ntmps169
 go_wp2
 go_ret
 exact ⟨rfl, zc (Below.refl _ _)⟩
theorem zmq (b off k cap : Nat) (s t n x : Int) (w : World) (hk : 2 <= k) (hs : (s == 0) = false) (hb : b < w.heap.size) (h1 : w.cell? ⟨b, off + 1, none⟩ = some (.int .u64 x)) (hx : decide (x < IntKind.u64.wrap s) = false) : Calls Tryz.prog 169 #[.slice (some ⟨b, off, none⟩) k cap, .int .i64 s, .agg #[.int .i64 t, .int .i64 n]] w fun e w' => e = .returned (.bool (t != 8)) /\ Below w.heap.size w w' := by
 have n1 : (1 : Int) < (k : Int) := by omega
 have q := fun o => zq (o := o) hb h1
 go_enter Tryz.func169, Tryz.ntmps169
 go_wp2
 go_ret
 exact ⟨rfl, zc (Below.refl _ _)⟩
theorem zlb (n : Int) (w : World) (h0 : 0 <= n) (h1 : n <= 160) : Calls Tryz.prog 131 #[.int .i64 n] w fun e w' => e = .returned (.int .i64 (1 + (n + 7) / 8)) /\ w' = w := by
 go_enter Tryz.func131, Tryz.ntmps131
 go_wp2
 go_ret
 refine ⟨zbq ?_, rfl⟩
 go_light
 try omega
theorem zfx (n m : Int) (w : World) (h0 : 0 <= n) (h1 : n <= 160) (hm : 1 + (n + 7) / 8 = m) : Calls Tryz.prog 131 #[.int .i64 n] w fun e w' => e = .returned (.int .i64 m) /\ w' = w := by
 subst hm; exact zlb n w h0 h1
theorem zlc (b off k cap : Nat) (x : Int) (w : World) (hk : 1 <= k) (h0 : w.cell? ⟨b, off, none⟩ = some (.int .u64 x)) (hx : 160 < x) : Calls Tryz.prog 155 #[.slice (some ⟨b, off, none⟩) k cap] w fun e w' => e = .returned (.bool false) /\ w' = w := by
 have n0 : (0 : Int) < (k : Int) := by omega
 go_enter Tryz.func155, Tryz.ntmps155
 go_wp2
 go_ret
 exact ⟨rfl, rfl⟩
theorem zj3 (b off k cap : Nat) (x m : Int) (w : World) (hk : 1 <= k) (h0 : w.cell? ⟨b, off, none⟩ = some (.int .u64 x)) (x0 : 0 <= x) (x1 : x <= 160) (hm : 1 + (x + 7) / 8 = m) (hne : (m != (k : Int)) = true) : Calls Tryz.prog 155 #[.slice (some ⟨b, off, none⟩) k cap] w fun e w' => e = .returned (.bool false) /\ w' = w := by
 have n0 : (0 : Int) < (k : Int) := by omega
 have hd : decide (160 < x) = false := decide_eq_false (by omega)
 have HM : Hid (1 + (x + 7) / 8 = m) := hm
 have hwx : wrap64 x = x := zaw x0 (by omega)
 clear hm
 go_enter Tryz.func155, Tryz.ntmps155
 go_wp2_with (go_at_call 131; refine (zfx _ m _ (by first | exact x0 | (rw [hwx]; exact x0)) (by first | exact x1 | (rw [hwx]; exact x1)) (by first | exact HM.out | (rw [hwx]; exact HM.out))).mono ?_; rintro e w1 ⟨rfl, rfl⟩)
 go_ret
 exact ⟨rfl, rfl⟩
theorem zj4 (b off k cap : Nat) (x m : Int) (w : World) (hk : 1 <= k) (h0 : w.cell? ⟨b, off, none⟩ = some (.int .u64 x)) (x0 : 0 <= x) (x1 : x <= 160) (hm : 1 + (x + 7) / 8 = m) (hne : (m != (k : Int)) = false) (hr : x.tmod 8 = 0) : Calls Tryz.prog 155 #[.slice (some ⟨b, off, none⟩) k cap] w fun e w' => e = .returned (.bool true) /\ w' = w := by
 have n0 : (0 : Int) < (k : Int) := by omega
 have hd : decide (160 < x) = false := decide_eq_false (by omega)
 have HM : Hid (1 + (x + 7) / 8 = m) := hm
 have hwx : wrap64 x = x := zaw x0 (by omega)
 clear hm
 go_enter Tryz.func155, Tryz.ntmps155
 go_wp2_with (go_at_call 131; refine (zfx _ m _ (by first | exact x0 | (rw [hwx]; exact x0)) (by first | exact x1 | (rw [hwx]; exact x1)) (by first | exact HM.out | (rw [hwx]; exact HM.out))).mono ?_; rintro e w1 ⟨rfl, rfl⟩)
 go_ret
 exact ⟨rfl, rfl⟩
theorem zld (b off k cap : Nat) (x m r y : Int) (w : World) (hk : 1 <= k) (hk2 : k <= 1048576) (h0 : w.cell? ⟨b, off, none⟩ = some (.int .u64 x)) (h1 : w.cell? ⟨b, off + (k - 1), none⟩ = some (.int .u64 y)) (y0 : 0 <= y) (y1 : y < 18446744073709551616) (x0 : 0 <= x) (x1 : x <= 160) (hm : 1 + (x + 7) / 8 = m) (hne : (m != (k : Int)) = false) (hr : x.tmod 8 = r) (r0 : 1 <= r) (r1 : r <= 7) : Calls Tryz.prog 155 #[.slice (some ⟨b, off, none⟩) k cap] w fun e w' => e = .returned (.bool (decide (y / 2 ^ (8 * r).toNat = 0))) /\ w' = w := by
 have n0 : (0 : Int) < (k : Int) := by omega
 have hd : decide (160 < x) = false := decide_eq_false (by omega)
 have HM : Hid (1 + (x + 7) / 8 = m) := hm
 have hwx : wrap64 x = x := zaw x0 (by omega)
 have i0 : 0 <= (k : Int) - 1 := by omega
 have i1 : (k : Int) - 1 < (k : Int) := by omega
 have i2 : ((k : Int) - 1).toNat = k - 1 := by omega
 have hk2' : (k : Int) <= 1048576 := by omega
 clear hm
 have hrr : r = 1 \/ r = 2 \/ r = 3 \/ r = 4 \/ r = 5 \/ r = 6 \/ r = 7 := by omega
 rcases hrr with rfl | rfl | rfl | rfl | rfl | rfl | rfl
 all_goals
  go_enter Tryz.func155, Tryz.ntmps155
  go_wp2_with (go_at_call 131; refine (zfx _ m _ (by first | exact x0 | (rw [hwx]; exact x0)) (by first | exact x1 | (rw [hwx]; exact x1)) (by first | exact HM.out | (rw [hwx]; exact HM.out))).mono ?_; rintro e w1 ⟨rfl, rfl⟩)
  go_ret
  refine ⟨za4 ?_, rfl⟩
  go_light
 all_goals rfl
end Go.Proofs.YtmabjaojgdlenaaGreat
