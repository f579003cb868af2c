/- - -/
import Derived.Test.YtblcfbhlmdhnpaaGreatBMrC
namespace Go.Proofs.YtblcfbhlmdhnpaaGreat
set_option maxRecDepth 20000
open Go.RowKit Go.PlainAid
set_option linter.unusedSimpArgs false
set_option linter.unusedVariables false
set_option maxHeartbeats 1000000 in
theorem ze1 (ow : Nat -> Nat) (B g : Nat) (a : Option Addr) (n c : Nat) (y : Nat -> Int) (k0 : Int) (w : World) (h : RwT ow B g 35 w a (2 * n) (fun i => .int .i64 (y i))) (hn : (n : Int) <= 1048576) (hk0 : 0 <= k0) (hk1 : k0 <= 9000000) :
 Calls Tryz.prog 68 #[.slice a n c, .int .i64 k0] w fun e w' => e = .returned (.int .i64 (k0 + 2 * n)) /\ RwT ow B g 35 w' a (2 * n) (mkI k0) /\ zc ow (· = g) w w' := by
 have hst : MkT ow B g 35 w w a (2 * n) (fun i => .int .i64 (y i)) (mkI k0) 0 := MkT.begin h
 have HS : Hid (MkT ow B g 35 w w a (2 * n) (fun i => .int .i64 (y i)) (mkI k0) 0) := hst
 clear h hst
 go_enter Tryz.func68, Tryz.ntmps68
 go_wp2
 go_loopw [1, 5] (fun q i wr => ∃ k : Nat, k <= n /\ i = .int .i64 k /\ q = .int .i64 (k0 + 2 * k) /\ Hid (MkT ow B g 35 w wr a (2 * n) (fun i => .int .i64 (y i)) (mkI k0) (k * 2))) (fun _ i _ => n - (intOf i).toNat)
 case atStart => exact ⟨0, Nat.zero_le _, rfl, by simp, HS.out⟩
 case round =>
  obtain ⟨k, hk, rfl, rfl, HR⟩ := hrel
  by_cases hlt : k < n
  · have hlt' : (k : Int) < (n : Int) := by omega
    obtain ⟨b, rfl, lb, hc, hf, h1⟩ := HR.out.here (by omega)
    obtain ⟨b', e', _, _, _, h2⟩ := h1.here (by omega)
    injection e' with e'
    injection e' with e'
    subst e'
    have q1 : wr.cell? ⟨b, k * 2, none⟩ = some (.int .i64 (y (k * 2))) := (hc (k * 2) (by omega) (by omega)).trans rfl
    have q2 : wr.cell? ⟨b, k * 2 + 1, none⟩ = some (.int .i64 (y (k * 2 + 1))) := (hc (k * 2 + 1) (by omega) (by omega)).trans rfl
    have f1 := hf (k * 2)
    have f2 := hf (k * 2 + 1)
    have e1 : mkI k0 (k * 2) = .int .i64 (k0 + 2 * k) := by show Value.int .i64 (k0 + ((k * 2 : Nat) : Int)) = _; rw [show k0 + ((k * 2 : Nat) : Int) = k0 + 2 * k by omega]
    have e2 : mkI k0 (k * 2 + 1) = .int .i64 (k0 + 2 * k + 1) := by show Value.int .i64 (k0 + ((k * 2 + 1 : Nat) : Int)) = _; rw [show k0 + ((k * 2 + 1 : Nat) : Int) = k0 + 2 * k + 1 by omega]
    rw [e1, e2] at h2
    have HN : Hid (MkT ow B g 35 w _ _ (2 * n) (fun i => .int .i64 (y i)) (mkI k0) (k * 2 + 1 + 1)) := h2
    clear h1 h2 hc hf e1 e2 HR HS
    go_wp2
    go_roundw
    case rel => exact ⟨k + 1, by omega, by go_num, by go_num, by have := HN.out; rw [show (k + 1) * 2 = k * 2 + 1 + 1 by omega]; exact this⟩
    case measure => simp [intOf]; omega
  · have hge : (n : Int) <= (k : Int) := by omega
    obtain rfl : k = n := by omega
    go_wp2
    go_ret
    exact ⟨rfl, HR.out.done (by omega), HR.out.1⟩
set_option maxHeartbeats 1000000 in
theorem ze2 (T : Nat) (a : Option Addr) (n c : Nat) (k0 : Int) (w : World) (h : SlF T w (.slice a n c) n (2 * n) (mkI k0)) (hn : (n : Int) <= 1048576) (hk0 : 0 <= k0) (hk1 : k0 <= 9000000) :
 Calls Tryz.prog 71 #[.slice a n c, .int .i64 k0] w fun e w' => e = .returned (.int .i64 (k0 + 2 * n)) /\ w' = w := by
 have HS : Hid (SlF T w (.slice a n c) n (2 * n) (mkI k0)) := h
 clear h
 go_enter Tryz.func71, Tryz.ntmps71
 go_wp2
 go_loopw [1, 5] (fun q i wr => ∃ k : Nat, k <= n /\ i = .int .i64 k /\ q = .int .i64 (k0 + 2 * k) /\ wr = w) (fun _ i _ => n - (intOf i).toNat)
 case atStart => exact ⟨0, Nat.zero_le _, rfl, by simp, rfl⟩
 case round =>
  obtain ⟨k, hk, rfl, rfl, rfl⟩ := hrel
  by_cases hlt : k < n
  · have hlt' : (k : Int) < (n : Int) := by omega
    obtain ⟨b, off, cap', hv, _, lb, hc⟩ := SlF.parts HS.out (k := 0) (by omega)
    simp only [Value.slice.injEq] at hv
    obtain ⟨rfl, _, rfl⟩ := hv
    have q1 : wr.cell? ⟨b, off + k * 2, none⟩ = some (.int .i64 (k0 + 2 * k)) := (hc (k * 2) (by omega)).trans (congrArg some (by show Value.int .i64 (k0 + ((k * 2 : Nat) : Int)) = _; rw [show k0 + ((k * 2 : Nat) : Int) = k0 + 2 * k by omega]))
    have q2 : wr.cell? ⟨b, off + k * 2 + 1, none⟩ = some (.int .i64 (k0 + 2 * k + 1)) := by rw [Nat.add_assoc]; exact (hc (k * 2 + 1) (by omega)).trans (congrArg some (by show Value.int .i64 (k0 + ((k * 2 + 1 : Nat) : Int)) = _; rw [show k0 + ((k * 2 + 1 : Nat) : Int) = k0 + 2 * k + 1 by omega]))
    clear hc HS
    go_wp2
    go_roundw
    case rel => exact ⟨k + 1, by omega, by go_num, by go_num, by first | rfl | trivial⟩
    case measure => simp [intOf]; omega
  · have hge : (n : Int) <= (k : Int) := by omega
    obtain rfl : k = n := by omega
    go_wp2
    go_ret
    exact ⟨rfl, rfl⟩
def mkW (k0 : Int) : Nat -> Value := fun j => .int .u64 (k0 + j)
set_option maxHeartbeats 1000000 in
theorem zc9 (ow : Nat -> Nat) (B g : Nat) (a : Option Addr) (n c : Nat) (z : Nat -> Int) (k0 : Int) (w : World) (h : RwT ow B g 88 w a n (fun i => .int .u64 (z i))) (hn : (n : Int) <= 1048576) (hk0 : 0 <= k0) (hk1 : k0 <= 9000000) :
 Calls Tryz.prog 67 #[.slice a n c, .int .i64 k0] w fun e w' => e = .returned (.int .i64 (k0 + n)) /\ RwT ow B g 88 w' a n (mkW k0) /\ zc ow (· = g) w w' := by
 have HS : Hid (MkT ow B g 88 w w a n (fun i => .int .u64 (z i)) (mkW k0) 0) := MkT.begin h
 clear h
 go_enter Tryz.func67, Tryz.ntmps67
 go_wp2
 go_loopw [1, 5] (fun q i wr => ∃ k : Nat, k <= n /\ i = .int .i64 k /\ q = .int .i64 (k0 + k) /\ Hid (MkT ow B g 88 w wr a n (fun i => .int .u64 (z i)) (mkW k0) k)) (fun _ i _ => n - (intOf i).toNat)
 case atStart => exact ⟨0, Nat.zero_le _, rfl, by simp, HS.out⟩
 case round =>
  obtain ⟨k, hk, rfl, rfl, HR⟩ := hrel
  by_cases hlt : k < n
  · have hlt' : (k : Int) < (n : Int) := by omega
    obtain ⟨b, rfl, lb, hc, hf, h1⟩ := HR.out.here hlt
    have q1 : wr.cell? ⟨b, k, none⟩ = some (.int .u64 (z k)) := hc k (Nat.le_refl _) hlt
    have f1 := hf k
    have HN : Hid (MkT ow B g 88 w (wr.setCell ⟨b, k, none⟩ (.int .u64 (k0 + k))) (some ⟨b, 0, none⟩) n (fun i => .int .u64 (z i)) (mkW k0) (k + 1)) := h1
    clear h1 hc hf HR HS
    go_wp2
    go_roundw
    case rel => exact ⟨k + 1, by omega, by go_num, by go_num, HN.out⟩
    case measure => simp [intOf]; omega
  · have hge : (n : Int) <= (k : Int) := by omega
    obtain rfl : k = n := by omega
    go_wp2
    go_ret
    exact ⟨rfl, HR.out.done (by omega), HR.out.1⟩
set_option maxHeartbeats 1000000 in
theorem zda (T : Nat) (a : Option Addr) (n c : Nat) (k0 : Int) (w : World) (h : SlF T w (.slice a n c) n n (mkW k0)) (hn : (n : Int) <= 1048576) (hk0 : 0 <= k0) (hk1 : k0 <= 9000000) :
 Calls Tryz.prog 70 #[.slice a n c, .int .i64 k0] w fun e w' => e = .returned (.int .i64 (k0 + n)) /\ w' = w := by
 have HS : Hid (SlF T w (.slice a n c) n n (mkW k0)) := h
 clear h
 go_enter Tryz.func70, Tryz.ntmps70
 go_wp2
 go_loopw [1, 5] (fun q i wr => ∃ k : Nat, k <= n /\ i = .int .i64 k /\ q = .int .i64 (k0 + k) /\ wr = w) (fun _ i _ => n - (intOf i).toNat)
 case atStart => exact ⟨0, Nat.zero_le _, rfl, by simp, rfl⟩
 case round =>
  obtain ⟨k, hk, rfl, rfl, rfl⟩ := hrel
  by_cases hlt : k < n
  · have hlt' : (k : Int) < (n : Int) := by omega
    obtain ⟨b, off, cap', hv, _, lb, hc⟩ := SlF.parts HS.out (k := 0) (by omega)
    simp only [Value.slice.injEq] at hv
    obtain ⟨rfl, _, rfl⟩ := hv
    have q1 : wr.cell? ⟨b, off + k, none⟩ = some (.int .u64 (k0 + k)) := hc k hlt
    clear hc HS
    go_wp2
    go_roundw
    case rel => exact ⟨k + 1, by omega, by go_num, by go_num, by first | rfl | trivial⟩
    case measure => simp [intOf]; omega
  · have hge : (n : Int) <= (k : Int) := by omega
    obtain rfl : k = n := by omega
    go_wp2
    go_ret
    exact ⟨rfl, rfl⟩
set_option maxHeartbeats 2000000 in
theorem zdt (ow : Nat -> Nat) (B g : Nat) (aw : Option Addr) (wl cw : Nat) (smz toh top : Int) (cyc : Bool) (sn old cp srz : Int) (ar : Option Addr) (rl cr : Nat) (z y : Nat -> Int) (k0 : Nat) (w : World) (h1 : RwT ow B g 88 w aw wl (fun i => .int .u64 (z i))) (h2 : RwT ow B (g + 1) 35 w ar (2 * rl) (fun i => .int .i64 (y i))) (hg : 1 <= g) (hown : ∀ k, w.heap.size <= k -> ow k = 0) (hw : (wl : Int) <= 1048576) (hr : (rl : Int) <= 1048576) (hk1 : (k0 : Int) + wl <= 9000000) :
 Calls Tryz.prog 34 #[.agg #[.slice aw wl cw, .int .i64 smz, .int .i64 toh, .int .i64 top, .bool cyc, .int .i64 sn, .int .i64 old, .int .i64 cp, .int .i64 srz, .slice ar rl cr], .int .i64 (k0 : Int)] w fun e w' => e = .returned (.int .i64 ((k0 : Int) + wl + 2 * rl)) /\ RwT ow B g 88 w' aw wl (mkW (k0 : Int)) /\ RwT ow B (g + 1) 35 w' ar (2 * rl) (mkI ((k0 : Int) + wl)) /\ zc ow (fun t => t = g \/ t = g + 1) w w' := by
 have b0 : Below w.heap.size w (w.alloc (.cells #[.slice aw wl cw, .int .i64 smz, .int .i64 toh, .int .i64 top, .bool cyc, .int .i64 sn, .int .i64 old, .int .i64 cp, .int .i64 srz, .slice ar rl cr] 33)) := (Below.refl _ _).alloc (Nat.le_refl _) _
 have T0 : Hid (zc ow (fun t => t = g \/ t = g + 1) w (w.alloc (.cells #[.slice aw wl cw, .int .i64 smz, .int .i64 toh, .int .i64 top, .bool cyc, .int .i64 sn, .int .i64 old, .int .i64 cp, .int .i64 srz, .slice ar rl cr] 33))) := zc.of_below b0
 have R1 : Hid (RwT ow B g 88 (w.alloc (.cells #[.slice aw wl cw, .int .i64 smz, .int .i64 toh, .int .i64 top, .bool cyc, .int .i64 sn, .int .i64 old, .int .i64 cp, .int .i64 srz, .slice ar rl cr] 33)) aw wl (fun i => .int .u64 (z i))) := h1.kept (p := fun _ => False) (zc.of_below b0) (fun h => h)
 have R2 : Hid (RwT ow B (g + 1) 35 (w.alloc (.cells #[.slice aw wl cw, .int .i64 smz, .int .i64 toh, .int .i64 top, .bool cyc, .int .i64 sn, .int .i64 old, .int .i64 cp, .int .i64 srz, .slice ar rl cr] 33)) ar (2 * rl) (fun i => .int .i64 (y i))) := h2.kept (p := fun _ => False) (zc.of_below b0) (fun h => h)
 have x0 := za.new w 33 #[.slice aw wl cw, .int .i64 smz, .int .i64 toh, .int .i64 top, .bool cyc, .int .i64 sn, .int .i64 old, .int .i64 cp, .int .i64 srz, .slice ar rl cr]
 have o0 : ow w.heap.size = 0 := hown _ (Nat.le_refl _)
 clear h1 h2 b0
 go_enter Tryz.func34, Tryz.ntmps34
 go_wp2_with fail
 refine (zc9 ow B g aw wl cw z (k0 : Int) _ R1.out hw (by omega) (by omega)).mono ?_
 rintro e w1 ⟨rfl, r1, t1⟩
 have x1 : za w1 w.heap.size 33 #[.slice aw wl cw, .int .i64 smz, .int .i64 toh, .int .i64 top, .bool cyc, .int .i64 sn, .int .i64 old, .int .i64 cp, .int .i64 srz, .slice ar rl cr] := (t1.block _ x0.lt (by show ¬ ow w.heap.size = g; rw [o0]; omega)).trans x0
 have k1 := x1.cell
 have l1 := x1.lt
 have Q1 : Hid (RwT ow B g 88 w1 aw wl (mkW (k0 : Int))) := r1
 have Q2 : Hid (RwT ow B (g + 1) 35 w1 ar (2 * rl) (fun i => .int .i64 (y i))) := R2.out.kept t1 (by omega)
 have T1 : Hid (zc ow (fun t => t = g \/ t = g + 1) w w1) := T0.out.trans (t1.mono (fun t h => .inl h))
 clear r1 t1 x0 x1 R1 R2 T0
 go_wp2_with fail
 refine (ze1 ow B (g + 1) ar rl cr y ((k0 : Int) + wl) w1 Q2.out hr (by omega) (by omega)).mono ?_
 rintro e w2 ⟨rfl, r2, t2⟩
 have F1 : Hid (RwT ow B g 88 w2 aw wl (mkW (k0 : Int))) := Q1.out.kept t2 (by omega)
 have F2 : Hid (RwT ow B (g + 1) 35 w2 ar (2 * rl) (mkI ((k0 : Int) + wl))) := r2
 have F3 : Hid (zc ow (fun t => t = g \/ t = g + 1) w w2) := T1.out.trans (t2.mono (fun t h => .inr h))
 clear r2 t2 Q1 Q2 T1 k1
 go_wp2
 go_ret
 exact ⟨rfl, F1.out, F2.out, F3.out⟩
set_option maxHeartbeats 2000000 in
theorem zdu (ow : Nat -> Nat) (B g : Nat) (aw : Option Addr) (wl cw : Nat) (smz toh top : Int) (cyc : Bool) (sn old cp srz : Int) (ar : Option Addr) (rl cr : Nat) (k0 : Nat) (w : World) (h1 : RwT ow B g 88 w aw wl (mkW (k0 : Int))) (h2 : RwT ow B (g + 1) 35 w ar (2 * rl) (mkI ((k0 : Int) + wl))) (hw : (wl : Int) <= 1048576) (hr : (rl : Int) <= 1048576) (hk1 : (k0 : Int) + wl <= 9000000) :
 Calls Tryz.prog 36 #[.agg #[.slice aw wl cw, .int .i64 smz, .int .i64 toh, .int .i64 top, .bool cyc, .int .i64 sn, .int .i64 old, .int .i64 cp, .int .i64 srz, .slice ar rl cr], .int .i64 (k0 : Int)] w fun e w' => e = .returned (.int .i64 ((k0 : Int) + wl + 2 * rl)) /\ Below w.heap.size w w' := by
 have b0 : Below w.heap.size w (w.alloc (.cells #[.slice aw wl cw, .int .i64 smz, .int .i64 toh, .int .i64 top, .bool cyc, .int .i64 sn, .int .i64 old, .int .i64 cp, .int .i64 srz, .slice ar rl cr] 33)) := (Below.refl _ _).alloc (Nat.le_refl _) _
 have R1 : Hid (SlF w.heap.size (w.alloc (.cells #[.slice aw wl cw, .int .i64 smz, .int .i64 toh, .int .i64 top, .bool cyc, .int .i64 sn, .int .i64 old, .int .i64 cp, .int .i64 srz, .slice ar rl cr] 33)) (.slice aw wl cw) wl wl (mkW (k0 : Int))) := (h1.sl wl cw).below b0 (Nat.le_refl _)
 have R2 : Hid (SlF w.heap.size (w.alloc (.cells #[.slice aw wl cw, .int .i64 smz, .int .i64 toh, .int .i64 top, .bool cyc, .int .i64 sn, .int .i64 old, .int .i64 cp, .int .i64 srz, .slice ar rl cr] 33)) (.slice ar rl cr) rl (2 * rl) (mkI ((k0 : Int) + wl))) := (h2.sl rl cr).below b0 (Nat.le_refl _)
 have n0 : ¬ (k0 : Int) + wl < 0 := by omega
 have n1 : ¬ (k0 : Int) + wl + 2 * rl < 0 := by omega
 clear h1 h2
 go_enter Tryz.func36, Tryz.ntmps36
 go_wp2_with fail
 refine (zda _ aw wl cw (k0 : Int) _ R1.out hw (by omega) (by omega)).mono ?_
 rintro e w1 ⟨rfl, h1⟩
 subst w1
 go_wp2_with fail
 refine (ze2 _ ar rl cr ((k0 : Int) + wl) _ R2.out hr (by omega) (by omega)).mono ?_
 rintro e w1 ⟨rfl, h1⟩
 subst w1
 go_wp2
 go_ret
 exact ⟨rfl, b0⟩
end Go.Proofs.YtblcfbhlmdhnpaaGreat
