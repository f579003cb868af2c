/- - -/
import Derived.Test.YtglolopfeambfaaGreatWSvB
namespace Go.Proofs.YtglolopfeambfaaGreat
set_option maxRecDepth 20000
open Go.RowKit
set_option linter.unusedSimpArgs false
set_option linter.unusedVariables false
theorem zuf (v : Value) (s t n : Int) (w : World) : Calls Tryz.prog 171 #[v, .int .i64 s, .agg #[.int .i64 t, .int .i64 n]] w fun e w' => e = .returned (.bool false) /\ Below w.heap.size w w' := by
 go_enter Tryz.func171, Tryz.ntmps171
 go_wp2
 go_ret
 first
  | exact ⟨rfl, zc (Below.refl _ _)⟩
  | exact ⟨rfl, Below.refl _ _⟩
theorem zug (v : Value) (s t n : Int) (w : World) : Calls Tryz.prog 174 #[v, .int .i64 s, .agg #[.int .i64 t, .int .i64 n]] w fun e w' => e = .returned (.bool ((t == 0) || (t == 8))) /\ Below w.heap.size w w' := by
 cases e0 : (t == 0) <;> cases e1 : (t == 8)
 all_goals
  go_enter Tryz.func174, Tryz.ntmps174
  go_wp2
  go_ret
  exact ⟨rfl, zc (Below.refl _ _)⟩
theorem zuh (v : Value) (s t n : Int) (w : World) : Calls Tryz.prog 177 #[v, .int .i64 s, .agg #[.int .i64 t, .int .i64 n]] w fun e w' => e = .returned (.bool ((t != 9) && (t != 8))) /\ Below w.heap.size w w' := by
 cases e0 : (t != 9) <;> cases e1 : (t != 8)
 all_goals
  go_enter Tryz.func177, Tryz.ntmps177
  go_wp2
  go_ret
  exact ⟨rfl, zc (Below.refl _ _)⟩
theorem zui (v : Value) (s t n : Int) (w : World) : Calls Tryz.prog 180 #[v, .int .i64 s, .agg #[.int .i64 t, .int .i64 n]] w fun e w' => e = .returned (.bool (t == 9)) /\ Below w.heap.size w w' := by
 cases e0 : (t == 9)
 all_goals
  go_enter Tryz.func180, Tryz.ntmps180
  go_wp2
  go_ret
  exact ⟨rfl, zc (Below.refl _ _)⟩
theorem zuj (v : Value) (s t n : Int) (w : World) : Calls Tryz.prog 183 #[v, .int .i64 s, .agg #[.int .i64 t, .int .i64 n]] w fun e w' => e = .returned (.bool (t != 8)) /\ Below w.heap.size w w' := by
 cases e0 : (t != 8)
 all_goals
  go_enter Tryz.func183, Tryz.ntmps183
  go_wp2
  go_ret
  exact ⟨rfl, zc (Below.refl _ _)⟩
theorem zuk (v : Value) (w : World) : Calls Tryz.prog 175 #[v] w fun e w' => e = .returned (.bool true) /\ w' = w := by
 go_enter Tryz.func175, Tryz.ntmps175
 go_wp2
 go_ret
 exact ⟨rfl, rfl⟩
theorem zul (v : Value) (w : World) : Calls Tryz.prog 178 #[v] w fun e w' => e = .returned (.bool true) /\ w' = w := by
 go_enter Tryz.func178, Tryz.ntmps178
 go_wp2
 go_ret
 exact ⟨rfl, rfl⟩
theorem zum (v : Value) (w : World) : Calls Tryz.prog 184 #[v] w fun e w' => e = .returned (.bool true) /\ w' = w := by
 go_enter Tryz.func184, Tryz.ntmps184
 go_wp2
 go_ret
 exact ⟨rfl, rfl⟩
theorem zm0 (v : Value) (w : World) : Sem.run Tryz.prog (method 311 161 v "loop.example/g00101/impl.wordsOk") w = .ok (172, v) w := by kernel_rfl
theorem zm1 (v : Value) (w : World) : Sem.run Tryz.prog (method 311 161 v "loop.example/g00101/impl.mayHold") w = .ok (171, v) w := by kernel_rfl
theorem zm2 (v : Value) (w : World) : Sem.run Tryz.prog (method 311 162 v "loop.example/g00101/impl.wordsOk") w = .ok (175, v) w := by kernel_rfl
theorem zm3 (v : Value) (w : World) : Sem.run Tryz.prog (method 311 162 v "loop.example/g00101/impl.mayHold") w = .ok (174, v) w := by kernel_rfl
theorem zm4 (v : Value) (w : World) : Sem.run Tryz.prog (method 311 163 v "loop.example/g00101/impl.wordsOk") w = .ok (178, v) w := by kernel_rfl
theorem zm5 (v : Value) (w : World) : Sem.run Tryz.prog (method 311 163 v "loop.example/g00101/impl.mayHold") w = .ok (177, v) w := by kernel_rfl
theorem zm6 (v : Value) (w : World) : Sem.run Tryz.prog (method 311 164 v "loop.example/g00101/impl.wordsOk") w = .ok (181, v) w := by kernel_rfl
theorem zm7 (v : Value) (w : World) : Sem.run Tryz.prog (method 311 164 v "loop.example/g00101/impl.mayHold") w = .ok (180, v) w := by kernel_rfl
theorem zm8 (v : Value) (w : World) : Sem.run Tryz.prog (method 311 165 v "loop.example/g00101/impl.wordsOk") w = .ok (184, v) w := by kernel_rfl
theorem zm9 (v : Value) (w : World) : Sem.run Tryz.prog (method 311 165 v "loop.example/g00101/impl.mayHold") w = .ok (183, v) w := by kernel_rfl
theorem zna (v : Value) (w : World) : Sem.run Tryz.prog (method 311 166 v "loop.example/g00101/impl.wordsOk") w = .ok (187, v) w := by kernel_rfl
theorem znb (v : Value) (w : World) : Sem.run Tryz.prog (method 311 166 v "loop.example/g00101/impl.mayHold") w = .ok (186, v) w := by kernel_rfl
theorem zun (b off n cap : Nat) (x : Int) (w : World) (hn : 1 <= n) (hx : w.cell? ⟨b, off, none⟩ = some (.int .u64 x)) : Calls Tryz.prog 181 #[.slice (some ⟨b, off, none⟩) n cap] w fun e w' => e = .returned (.bool (decide (x <= 255))) /\ w' = w := by
 have hn' : (0 : Int) < (n : Int) := by omega
 go_enter Tryz.func181, Tryz.ntmps181
 go_wp2
 go_ret
 exact ⟨rfl, rfl⟩
theorem zue (b off n cap : Nat) (x0 x1 x2 x3 : Int) (w : World) (hn : 4 <= n) (h0 : w.cell? ⟨b, off, none⟩ = some (.int .u64 x0)) (h1 : w.cell? ⟨b, off + 1, none⟩ = some (.int .u64 x1)) (h2 : w.cell? ⟨b, off + 2, none⟩ = some (.int .u64 x2)) (h3 : w.cell? ⟨b, off + 3, none⟩ = some (.int .u64 x3)) :
 Calls Tryz.prog 187 #[.slice (some ⟨b, off, none⟩) n cap] w fun e w' => e = .returned (.bool (decide (x0 <= 4) && decide (x1 <= 60) && decide (x2 <= x1) && decide (x3 <= 4095))) /\ Below w.heap.size w w' := by
 have n0 : (0 : Int) < (n : Int) := by omega
 have n1 : (1 : Int) < (n : Int) := by omega
 have n2 : (2 : Int) < (n : Int) := by omega
 have n3 : (3 : Int) < (n : Int) := by omega
 cases e0 : decide (x0 <= 4) <;> cases e1 : decide (x1 <= 60) <;> cases e2 : decide (x2 <= x1) <;> cases e3 : decide (x3 <= 4095)
 all_goals
  go_enter Tryz.func187, Tryz.ntmps187
  go_wp2
  go_quiet (fail)
  go_wp2
  go_ret
  exact ⟨rfl, below_drewN (Below.refl _ _) _⟩
theorem zkm (v : Value) (s t n : Int) (w : World) (hs : (s == 0) = true) : Calls Tryz.prog 186 #[v, .int .i64 s, .agg #[.int .i64 t, .int .i64 n]] w fun e w' => e = .returned (.bool ((t == 0) || (t == 6))) /\ Below w.heap.size w w' := by
 cases e0 : (t == 0) <;> cases e1 : (t == 6)
 all_goals
  go_enter Tryz.func186, Tryz.ntmps186
  go_wp2
  go_ret
  exact ⟨rfl, zc (Below.refl _ _)⟩
theorem zlk (b off k cap : Nat) (s t n x : Int) (w : World) (hk : 2 <= k) (hs : (s == 0) = false) (hb : b < w.heap.size) (h1 : w.cell? ⟨b, off + 1, none⟩ = some (.int .u64 x)) (hx : x < IntKind.u64.wrap s) : Calls Tryz.prog 186 #[.slice (some ⟨b, off, none⟩) k cap, .int .i64 s, .agg #[.int .i64 t, .int .i64 n]] w fun e w' => e = .returned (.bool (t == 0)) /\ Below w.heap.size w w' := by
 have n1 : (1 : Int) < (k : Int) := by omega
 have q := fun o => zv (o := o) hb h1
 go_enter Tryz.func186, Tryz.ntmps186
 go_wp2
 go_ret
 exact ⟨rfl, zc (Below.refl _ _)⟩
theorem zop (b off k cap : Nat) (s t n x : Int) (w : World) (hk : 2 <= k) (hs : (s == 0) = false) (hb : b < w.heap.size) (h1 : w.cell? ⟨b, off + 1, none⟩ = some (.int .u64 x)) (hx : decide (x < IntKind.u64.wrap s) = false) : Calls Tryz.prog 186 #[.slice (some ⟨b, off, none⟩) k cap, .int .i64 s, .agg #[.int .i64 t, .int .i64 n]] w fun e w' => e = .returned (.bool (t != 8)) /\ Below w.heap.size w w' := by
 have n1 : (1 : Int) < (k : Int) := by omega
 have q := fun o => zv (o := o) hb h1
 go_enter Tryz.func186, Tryz.ntmps186
 go_wp2
 go_ret
 exact ⟨rfl, zc (Below.refl _ _)⟩
theorem zmx (n : Int) (w : World) (h0 : 0 <= n) (h1 : n <= 160) : Calls Tryz.prog 139 #[.int .i64 n] w fun e w' => e = .returned (.int .i64 (1 + (n + 7) / 8)) /\ w' = w := by
 go_enter Tryz.func139, Tryz.ntmps139
 go_wp2
 go_ret
 refine ⟨zbs ?_, rfl⟩
 go_light
 try omega
theorem zgh (n m : Int) (w : World) (h0 : 0 <= n) (h1 : n <= 160) (hm : 1 + (n + 7) / 8 = m) : Calls Tryz.prog 139 #[.int .i64 n] w fun e w' => e = .returned (.int .i64 m) /\ w' = w := by
 subst hm; exact zmx n w h0 h1
theorem zmy (b off k cap : Nat) (x : Int) (w : World) (hk : 1 <= k) (h0 : w.cell? ⟨b, off, none⟩ = some (.int .u64 x)) (hx : 160 < x) : Calls Tryz.prog 172 #[.slice (some ⟨b, off, none⟩) k cap] w fun e w' => e = .returned (.bool false) /\ w' = w := by
 have n0 : (0 : Int) < (k : Int) := by omega
 go_enter Tryz.func172, Tryz.ntmps172
 go_wp2
 go_ret
 exact ⟨rfl, rfl⟩
theorem zli (b off k cap : Nat) (x m : Int) (w : World) (hk : 1 <= k) (h0 : w.cell? ⟨b, off, none⟩ = some (.int .u64 x)) (x0 : 0 <= x) (x1 : x <= 160) (hm : 1 + (x + 7) / 8 = m) (hne : (m != (k : Int)) = true) : Calls Tryz.prog 172 #[.slice (some ⟨b, off, none⟩) k cap] w fun e w' => e = .returned (.bool false) /\ w' = w := by
 have n0 : (0 : Int) < (k : Int) := by omega
 have hd : decide (160 < x) = false := decide_eq_false (by omega)
 have HM : Hid (1 + (x + 7) / 8 = m) := hm
 have hwx : wrap64 x = x := za5 x0 (by omega)
 clear hm
 go_enter Tryz.func172, Tryz.ntmps172
 go_wp2_with (go_at_call 139; refine (zgh _ m _ (by first | exact x0 | (rw [hwx]; exact x0)) (by first | exact x1 | (rw [hwx]; exact x1)) (by first | exact HM.out | (rw [hwx]; exact HM.out))).mono ?_; rintro e w1 ⟨rfl, rfl⟩)
 go_ret
 exact ⟨rfl, rfl⟩
theorem zlj (b off k cap : Nat) (x m : Int) (w : World) (hk : 1 <= k) (h0 : w.cell? ⟨b, off, none⟩ = some (.int .u64 x)) (x0 : 0 <= x) (x1 : x <= 160) (hm : 1 + (x + 7) / 8 = m) (hne : (m != (k : Int)) = false) (hr : x.tmod 8 = 0) : Calls Tryz.prog 172 #[.slice (some ⟨b, off, none⟩) k cap] w fun e w' => e = .returned (.bool true) /\ w' = w := by
 have n0 : (0 : Int) < (k : Int) := by omega
 have hd : decide (160 < x) = false := decide_eq_false (by omega)
 have HM : Hid (1 + (x + 7) / 8 = m) := hm
 have hwx : wrap64 x = x := za5 x0 (by omega)
 clear hm
 go_enter Tryz.func172, Tryz.ntmps172
 go_wp2_with (go_at_call 139; refine (zgh _ m _ (by first | exact x0 | (rw [hwx]; exact x0)) (by first | exact x1 | (rw [hwx]; exact x1)) (by first | exact HM.out | (rw [hwx]; exact HM.out))).mono ?_; rintro e w1 ⟨rfl, rfl⟩)
 go_ret
 exact ⟨rfl, rfl⟩
theorem zmz (b off k cap : Nat) (x m r y : Int) (w : World) (hk : 1 <= k) (hk2 : k <= 1048576) (h0 : w.cell? ⟨b, off, none⟩ = some (.int .u64 x)) (h1 : w.cell? ⟨b, off + (k - 1), none⟩ = some (.int .u64 y)) (y0 : 0 <= y) (y1 : y < 18446744073709551616) (x0 : 0 <= x) (x1 : x <= 160) (hm : 1 + (x + 7) / 8 = m) (hne : (m != (k : Int)) = false) (hr : x.tmod 8 = r) (r0 : 1 <= r) (r1 : r <= 7) : Calls Tryz.prog 172 #[.slice (some ⟨b, off, none⟩) k cap] w fun e w' => e = .returned (.bool (decide (y / 2 ^ (8 * r).toNat = 0))) /\ w' = w := by
 have n0 : (0 : Int) < (k : Int) := by omega
 have hd : decide (160 < x) = false := decide_eq_false (by omega)
 have HM : Hid (1 + (x + 7) / 8 = m) := hm
 have hwx : wrap64 x = x := za5 x0 (by omega)
 have i0 : 0 <= (k : Int) - 1 := by omega
 have i1 : (k : Int) - 1 < (k : Int) := by omega
 have i2 : ((k : Int) - 1).toNat = k - 1 := by omega
 have hk2' : (k : Int) <= 1048576 := by omega
 clear hm
 have hrr : r = 1 \/ r = 2 \/ r = 3 \/ r = 4 \/ r = 5 \/ r = 6 \/ r = 7 := by omega
 rcases hrr with rfl | rfl | rfl | rfl | rfl | rfl | rfl
 all_goals
  go_enter Tryz.func172, Tryz.ntmps172
  go_wp2_with (go_at_call 139; refine (zgh _ m _ (by first | exact x0 | (rw [hwx]; exact x0)) (by first | exact x1 | (rw [hwx]; exact x1)) (by first | exact HM.out | (rw [hwx]; exact HM.out))).mono ?_; rintro e w1 ⟨rfl, rfl⟩)
  go_ret
  refine ⟨zbd ?_, rfl⟩
  go_light
 all_goals rfl
end Go.Proofs.YtglolopfeambfaaGreat
