/- - -/
import Derived.Test.YtglolopfeambfaaGreatWMkP
import Derived.Laws.MakeOwn
import Derived.Deep.CutRange
import Derived.Deep.RegionWith
import Derived.Deep.QuietTactic
import Derived.BigQuiet
namespace Go.Proofs.YtglolopfeambfaaGreat
set_option maxRecDepth 20000
open Go.RowKit
set_option linter.unusedSimpArgs false
set_option linter.unusedVariables false
def zcw (t : TypeId) (w wr : World) (K m : Nat) (f : Nat -> Value) (k : Nat) : Prop := Below w.heap.size w wr /\ ∃ g, wr.rowIs K t m g /\ ∀ j, j < k -> g j = f j
theorem zhs {t : TypeId} {w wr : World} {K m : Nat} {f : Nat -> Value} {k : Nat} (h : zcw t w wr K m f k) (hK : w.heap.size <= K) : zcw t w (wr.setCell ⟨K, k, none⟩ (f k)) K m f (k + 1) := by
 obtain ⟨h0, g, h1, h2⟩ := h
 refine ⟨h0.setCell (p := ⟨K, k, none⟩) hK _, _, h1.set k _, fun j hj => ?_⟩
 by_cases e : j = k
 · subst e
   simp
 · rw [if_neg (by omega)]
   exact h2 j (by omega)
theorem zk6 {t : TypeId} {w wr : World} {K m : Nat} {f : Nat -> Value} {k : Nat} (h : zcw t w wr K m f k) (hK : w.heap.size <= K) {u v : Value} (hu : f k = u) (hv : f (k + 1) = v) : zcw t w ((wr.setCell ⟨K, k, none⟩ u).setCell ⟨K, k + 1, none⟩ v) K m f (k + 2) := by
 subst hu hv
 exact zhs (zhs h hK) hK
theorem zht {t : TypeId} {w wr : World} {K m : Nat} {f : Nat -> Value} (h : zcw t w wr K m f m) : wr.rowIs K t m f := by
 obtain ⟨h0, g, h1, h2⟩ := h
 exact h1.congr h2
theorem zim {t : TypeId} {w wr w1 : World} {K m : Nat} {f : Nat -> Value} {k : Nat} (h : zcw t w wr K m f k) (hb : Below wr.heap.size wr w1) : zcw t w w1 K m f k := by
 obtain ⟨h0, g, h1, h2⟩ := h
 exact ⟨zb h0 hb, g, h1.of_block (hb.block _ h1.lt), h2⟩
theorem rowIs_made (A : Array Value) (hA : 0 < A.size) (w : World) (n : Nat) (t : TypeId) : ∃ g, (w.alloc (.cells (madeCells A n) t)).rowIs w.heap.size t n g :=
 ⟨fun i => (madeCells A n).getD i (.bool false), _, Go.Deep.blk_alloc_new _ _, size_madeCells _ _, fun i hi => by
  simp [Array.getD, size_madeCells, hi]⟩
theorem zvo : (Tryz.prog.info? 125).map (fun i => (i.zero, i.size, i.bytes)) = some (some (.agg #[.bool false, .int .i64 0]), 2, 16) := by kernel_rfl
theorem zvp (l : Int) (h0 : 0 <= l) (h1 : l <= 1048576) (w : World) : (Instr.makeSlice 92 (.int .i64 l) (.int .i64 l)).run Tryz.prog w = .ok (.slice (some ⟨w.heap.size, 0, none⟩) l.toNat l.toNat) (w.alloc (.cells (madeCells #[.bool false, .int .i64 0] (l.toNat * 2)) 125)) := by
 obtain ⟨i, hi, hzz⟩ := Option.map_eq_some_iff.1 zvo
 simp only [Prod.mk.injEq] at hzz
 obtain ⟨hz, hs, hb⟩ := hzz
 have := run_make (P := Tryz.prog) w 92 125 i _ Tryz.underlying92 hi hz .i64 .i64 l l h0 (Int.le_refl _) (by rw [hb]; omega) (by omega)
 rw [hs] at this
 exact this
theorem zuv (p0 : Bool) (q0 : Int) (w : World) :
 Calls Tryz.prog 103 #[.agg #[.bool p0, .int .i64 q0]] w fun e w' => e = .returned (.agg #[.bool p0, .int .i64 q0]) /\ Below w.heap.size w w' := by
 go_enter Tryz.func103, Tryz.ntmps103
 go_wp2
 exact bodyPost_ret (v := .agg #[.bool p0, .int .i64 q0]) (by simp [results, Tryz.results103, go_sem]) rfl ⟨rfl, (((Below.refl _ _).alloc (Nat.le_refl _) _).alloc (by simp) _).alloc (by simp; omega) _⟩
theorem zuw (a : Option Addr) (n cap : Nat) (p : Nat -> Bool) (q : Nat -> Int) (T : Nat) (w : World) (hs : SlF T w (.slice a n cap) n (2 * n) (upF p q)) (hn : n <= 1048576) :
 Calls Tryz.prog 83 #[.slice a n cap] w fun e w' => e = .returned (.slice (some ⟨w.heap.size, 0, none⟩) n n) /\ w'.rowIs w.heap.size 125 (n * 2) (upF p q) /\ Below w.heap.size w w' := by
 have hn' : (n : Int) <= 1048576 := by omega
 have hm1 := zvp (n : Int) (by omega) (by omega)
 rw [Int.toNat_natCast] at hm1
 have HS : Hid (SlF w.heap.size w (.slice a n cap) n (2 * n) (upF p q)) := hs.here
 clear hs
 go_enter Tryz.func83, Tryz.ntmps83
 go_wp2
 go_loopw [4] (fun u4 wr => ∃ k : Nat, k <= n /\ u4 = .int .i64 k /\ zcw 125 w wr w.heap.size (n * 2) (upF p q) (k * 2)) (fun u4 _ => n - (intOf u4).toNat)
 case atStart =>
  obtain ⟨g, hg⟩ := rowIs_made #[.bool false, .int .i64 0] (by decide) w (n * 2) 125
  exact ⟨0, Nat.zero_le _, rfl, (Below.refl _ _).alloc (Nat.le_refl _) _, g, hg, fun j hj => by omega⟩
 case round =>
  obtain ⟨k, hk, rfl, hF⟩ := hrel
  by_cases hlt : k < n
  · have hlt' : (k : Int) < (n : Int) := by omega
    obtain ⟨br, offr, cap', hv, _, lbr, hcr⟩ := HS.out.parts (k := 0) (by omega)
    simp only [Value.slice.injEq] at hv
    obtain ⟨rfl, _, rfl⟩ := hv
    have hc1 : wr.cell? ⟨br, offr + k * 2, none⟩ = some (upF p q (k * 2)) := by rw [hF.1.cell (p := ⟨br, offr + k * 2, none⟩) lbr]; exact hcr (k * 2) (by omega)
    have hd1 : wr.cell? ⟨br, offr + k * 2 + 1, none⟩ = some (upF p q (k * 2 + 1)) := by rw [hF.1.cell (p := ⟨br, offr + k * 2 + 1, none⟩) lbr]; exact hcr (k * 2 + 1) (by omega)
    have e0 := zj0 p q k
    have e1 := zj1 p q k
    rw [e0] at hc1
    rw [e1] at hd1
    have E0 : Hid (upF p q (k * 2) = .bool (p k)) := e0
    have E1 : Hid (upF p q (k * 2 + 1) = .int .i64 (q k)) := e1
    have HF : Hid (zcw 125 w wr w.heap.size (n * 2) (upF p q) (k * 2)) := hF
    obtain ⟨gK, hgK, -⟩ := hF.2
    have lK : w.heap.size < wr.heap.size := hgK.lt
    clear hF hcr HS hm1 hgK e0 e1
    go_wp2_with (go_at_call 103; refine (zuv _ _ _).mono ?_; rintro e w1 ⟨rfl, b1⟩; have F1 : Hid (zcw 125 w w1 w.heap.size (n * 2) (upF p q) (k * 2)) := zim HF.out b1; obtain ⟨g, hg, -⟩ := F1.out.2; have g0 := hg.cell (i := k * 2) (by omega); have g1 := hg.cell (i := k * 2 + 1) (by omega); have gf := hg.frozen; clear hg b1)
    exact ⟨⟨k + 1, hlt, by go_num, by rw [Nat.succ_mul]; exact zk6 F1.out (Nat.le_refl _) E0.out E1.out⟩, by simp [intOf]; omega⟩
  · have hge : (n : Int) <= (k : Int) := by omega
    have hkn : k = n := by omega
    have HF : Hid (zcw 125 w wr w.heap.size (n * 2) (upF p q) (n * 2)) := hkn ▸ hF
    clear hkn hF
    go_wp2
    go_ret
    exact ⟨rfl, zht HF.out, HF.out.1⟩
theorem ztc (p0 : Bool) (q0 : Int) (w : World) :
 Calls Tryz.prog 122 #[.agg #[.bool p0, .int .i64 q0], .agg #[.bool p0, .int .i64 q0]] w fun e w' => e = .returned (.bool true) /\ Below w.heap.size w w' := by
 go_enter Tryz.func122, Tryz.ntmps122
 go_wp2
 go_ret
 exact ⟨rfl, ((Below.refl _ _).alloc (Nat.le_refl _) _).alloc (by simp) _⟩
theorem zrf (T1 T2 : Nat) (a1 a2 : Option Addr) (n c1 c2 : Nat) (p : Nat -> Bool) (q : Nat -> Int) (w : World) (h1 : SlF T1 w (.slice a1 n c1) n (2 * n) (upF p q)) (h2 : SlF T2 w (.slice a2 n c2) n (2 * n) (upF p q)) (hn : n <= 1048576) :
 Calls Tryz.prog 99 #[.slice a1 n c1, .slice a2 n c2] w fun e w' => e = .returned (.bool true) /\ Below w.heap.size w w' := by
 have H1 : Hid (SlF w.heap.size w (.slice a1 n c1) n (2 * n) (upF p q)) := h1.here
 have H2 : Hid (SlF w.heap.size w (.slice a2 n c2) n (2 * n) (upF p q)) := h2.here
 have hn' : (n : Int) <= 1048576 := by omega
 clear h1 h2
 go_enter Tryz.func99, Tryz.ntmps99
 go_wp2
 go_loopw [5] (fun i wr => ∃ k : Nat, k <= n /\ i = .int .i64 k /\ Below w.heap.size w wr) (fun i _ => n - (intOf i).toNat)
 case atStart => exact ⟨0, Nat.zero_le _, rfl, Below.refl _ _⟩
 case round =>
  obtain ⟨k, hk, rfl, hF⟩ := hrel
  by_cases hlt : k < n
  · have hlt' : (k : Int) < (n : Int) := by omega
    obtain ⟨b1, o1, cap', hv, _, l1, g1⟩ := H1.out.parts (k := 0) (by omega)
    simp only [Value.slice.injEq] at hv
    obtain ⟨rfl, _, rfl⟩ := hv
    obtain ⟨b2, o2, cap', hv, _, l2, g2⟩ := H2.out.parts (k := 0) (by omega)
    simp only [Value.slice.injEq] at hv
    obtain ⟨rfl, _, rfl⟩ := hv
    have hc1 : wr.cell? ⟨b1, o1 + k * 2, none⟩ = some (.bool (p k)) := by rw [hF.cell (p := ⟨b1, o1 + k * 2, none⟩) l1, <- zj0 p q]; exact g1 (k * 2) (by omega)
    have hc2 : wr.cell? ⟨b2, o2 + k * 2, none⟩ = some (.bool (p k)) := by rw [hF.cell (p := ⟨b2, o2 + k * 2, none⟩) l2, <- zj0 p q]; exact g2 (k * 2) (by omega)
    have hd1 : wr.cell? ⟨b1, o1 + k * 2 + 1, none⟩ = some (.int .i64 (q k)) := by rw [hF.cell (p := ⟨b1, o1 + k * 2 + 1, none⟩) l1, <- zj1 p q]; exact g1 (k * 2 + 1) (by omega)
    have hd2 : wr.cell? ⟨b2, o2 + k * 2 + 1, none⟩ = some (.int .i64 (q k)) := by rw [hF.cell (p := ⟨b2, o2 + k * 2 + 1, none⟩) l2, <- zj1 p q]; exact g2 (k * 2 + 1) (by omega)
    clear g1 g2 H1 H2
    go_wp2
    go_region_with (go_at_call 122; refine (ztc _ _ _).mono ?_; rintro e w' ⟨rfl, hb⟩)
    all_goals
     have hB := zb hF.drew hb
     go_wp2
     go_roundw
     case rel => exact ⟨k + 1, by omega, by go_num, hB⟩
     case measure => simp [intOf]; omega
  · have hge : (n : Int) <= (k : Int) := by omega
    go_wp2
    go_ret
    exact ⟨rfl, hF⟩
theorem zux : (Tryz.prog.info? 97).map (fun i => (i.zero, i.size, i.bytes)) = some (some (.agg #[.int .i64 0, .int .i64 0]), 2, 16) := by kernel_rfl
theorem zuy (l : Int) (h0 : 0 <= l) (h1 : l <= 1048576) (w : World) : (Instr.makeSlice 93 (.int .i64 l) (.int .i64 l)).run Tryz.prog w = .ok (.slice (some ⟨w.heap.size, 0, none⟩) l.toNat l.toNat) (w.alloc (.cells (madeCells #[.int .i64 0, .int .i64 0] (l.toNat * 2)) 97)) := by
 obtain ⟨i, hi, hzz⟩ := Option.map_eq_some_iff.1 zux
 simp only [Prod.mk.injEq] at hzz
 obtain ⟨hz, hs, hb⟩ := hzz
 have := run_make (P := Tryz.prog) w 93 97 i _ Tryz.underlying93 hi hz .i64 .i64 l l h0 (Int.le_refl _) (by rw [hb]; omega) (by omega)
 rw [hs] at this
 exact this
theorem ztd (p0 : Int) (q0 : Int) (w : World) :
 Calls Tryz.prog 104 #[.agg #[.int .i64 p0, .int .i64 q0]] w fun e w' => e = .returned (.agg #[.int .i64 p0, .int .i64 q0]) /\ Below w.heap.size w w' := by
 go_enter Tryz.func104, Tryz.ntmps104
 go_wp2
 exact bodyPost_ret (v := .agg #[.int .i64 p0, .int .i64 q0]) (by simp [results, Tryz.results104, go_sem]) rfl ⟨rfl, (((Below.refl _ _).alloc (Nat.le_refl _) _).alloc (by simp) _).alloc (by simp; omega) _⟩
theorem zte (a : Option Addr) (n cap : Nat) (p q : Nat -> Int) (T : Nat) (w : World) (hs : SlF T w (.slice a n cap) n (2 * n) (inF p q)) (hn : n <= 1048576) :
 Calls Tryz.prog 84 #[.slice a n cap] w fun e w' => e = .returned (.slice (some ⟨w.heap.size, 0, none⟩) n n) /\ w'.rowIs w.heap.size 97 (n * 2) (inF p q) /\ Below w.heap.size w w' := by
 have hn' : (n : Int) <= 1048576 := by omega
 have hm1 := zuy (n : Int) (by omega) (by omega)
 rw [Int.toNat_natCast] at hm1
 have HS : Hid (SlF w.heap.size w (.slice a n cap) n (2 * n) (inF p q)) := hs.here
 clear hs
 go_enter Tryz.func84, Tryz.ntmps84
 go_wp2
 go_loopw [4] (fun u4 wr => ∃ k : Nat, k <= n /\ u4 = .int .i64 k /\ zcw 97 w wr w.heap.size (n * 2) (inF p q) (k * 2)) (fun u4 _ => n - (intOf u4).toNat)
 case atStart =>
  obtain ⟨g, hg⟩ := rowIs_made #[.int .i64 0, .int .i64 0] (by decide) w (n * 2) 97
  exact ⟨0, Nat.zero_le _, rfl, (Below.refl _ _).alloc (Nat.le_refl _) _, g, hg, fun j hj => by omega⟩
 case round =>
  obtain ⟨k, hk, rfl, hF⟩ := hrel
  by_cases hlt : k < n
  · have hlt' : (k : Int) < (n : Int) := by omega
    obtain ⟨br, offr, cap', hv, _, lbr, hcr⟩ := HS.out.parts (k := 0) (by omega)
    simp only [Value.slice.injEq] at hv
    obtain ⟨rfl, _, rfl⟩ := hv
    have hc1 : wr.cell? ⟨br, offr + k * 2, none⟩ = some (inF p q (k * 2)) := by rw [hF.1.cell (p := ⟨br, offr + k * 2, none⟩) lbr]; exact hcr (k * 2) (by omega)
    have hd1 : wr.cell? ⟨br, offr + k * 2 + 1, none⟩ = some (inF p q (k * 2 + 1)) := by rw [hF.1.cell (p := ⟨br, offr + k * 2 + 1, none⟩) lbr]; exact hcr (k * 2 + 1) (by omega)
    have e0 := zha p q k
    have e1 := zj2 p q k
    rw [e0] at hc1
    rw [e1] at hd1
    have E0 : Hid (inF p q (k * 2) = .int .i64 (p k)) := e0
    have E1 : Hid (inF p q (k * 2 + 1) = .int .i64 (q k)) := e1
    have HF : Hid (zcw 97 w wr w.heap.size (n * 2) (inF p q) (k * 2)) := hF
    obtain ⟨gK, hgK, -⟩ := hF.2
    have lK : w.heap.size < wr.heap.size := hgK.lt
    clear hF hcr HS hm1 hgK e0 e1
    go_wp2_with (go_at_call 104; refine (ztd _ _ _).mono ?_; rintro e w1 ⟨rfl, b1⟩; have F1 : Hid (zcw 97 w w1 w.heap.size (n * 2) (inF p q) (k * 2)) := zim HF.out b1; obtain ⟨g, hg, -⟩ := F1.out.2; have g0 := hg.cell (i := k * 2) (by omega); have g1 := hg.cell (i := k * 2 + 1) (by omega); have gf := hg.frozen; clear hg b1)
    exact ⟨⟨k + 1, hlt, by go_num, by rw [Nat.succ_mul]; exact zk6 F1.out (Nat.le_refl _) E0.out E1.out⟩, by simp [intOf]; omega⟩
  · have hge : (n : Int) <= (k : Int) := by omega
    have hkn : k = n := by omega
    have HF : Hid (zcw 97 w wr w.heap.size (n * 2) (inF p q) (n * 2)) := hkn ▸ hF
    clear hkn hF
    go_wp2
    go_ret
    exact ⟨rfl, zht HF.out, HF.out.1⟩
theorem zrg (p0 : Int) (q0 : Int) (w : World) :
 Calls Tryz.prog 123 #[.agg #[.int .i64 p0, .int .i64 q0], .agg #[.int .i64 p0, .int .i64 q0]] w fun e w' => e = .returned (.bool true) /\ Below w.heap.size w w' := by
 go_enter Tryz.func123, Tryz.ntmps123
 go_wp2
 go_ret
 exact ⟨rfl, ((Below.refl _ _).alloc (Nat.le_refl _) _).alloc (by simp) _⟩
theorem zoz (T1 T2 : Nat) (a1 a2 : Option Addr) (n c1 c2 : Nat) (p q : Nat -> Int) (w : World) (h1 : SlF T1 w (.slice a1 n c1) n (2 * n) (inF p q)) (h2 : SlF T2 w (.slice a2 n c2) n (2 * n) (inF p q)) (hn : n <= 1048576) :
 Calls Tryz.prog 100 #[.slice a1 n c1, .slice a2 n c2] w fun e w' => e = .returned (.bool true) /\ Below w.heap.size w w' := by
 have H1 : Hid (SlF w.heap.size w (.slice a1 n c1) n (2 * n) (inF p q)) := h1.here
 have H2 : Hid (SlF w.heap.size w (.slice a2 n c2) n (2 * n) (inF p q)) := h2.here
 have hn' : (n : Int) <= 1048576 := by omega
 clear h1 h2
 go_enter Tryz.func100, Tryz.ntmps100
 go_wp2
 go_loopw [5] (fun i wr => ∃ k : Nat, k <= n /\ i = .int .i64 k /\ Below w.heap.size w wr) (fun i _ => n - (intOf i).toNat)
 case atStart => exact ⟨0, Nat.zero_le _, rfl, Below.refl _ _⟩
 case round =>
  obtain ⟨k, hk, rfl, hF⟩ := hrel
  by_cases hlt : k < n
  · have hlt' : (k : Int) < (n : Int) := by omega
    obtain ⟨b1, o1, cap', hv, _, l1, g1⟩ := H1.out.parts (k := 0) (by omega)
    simp only [Value.slice.injEq] at hv
    obtain ⟨rfl, _, rfl⟩ := hv
    obtain ⟨b2, o2, cap', hv, _, l2, g2⟩ := H2.out.parts (k := 0) (by omega)
    simp only [Value.slice.injEq] at hv
    obtain ⟨rfl, _, rfl⟩ := hv
    have hc1 : wr.cell? ⟨b1, o1 + k * 2, none⟩ = some (.int .i64 (p k)) := by rw [hF.cell (p := ⟨b1, o1 + k * 2, none⟩) l1, <- zha p q]; exact g1 (k * 2) (by omega)
    have hc2 : wr.cell? ⟨b2, o2 + k * 2, none⟩ = some (.int .i64 (p k)) := by rw [hF.cell (p := ⟨b2, o2 + k * 2, none⟩) l2, <- zha p q]; exact g2 (k * 2) (by omega)
    have hd1 : wr.cell? ⟨b1, o1 + k * 2 + 1, none⟩ = some (.int .i64 (q k)) := by rw [hF.cell (p := ⟨b1, o1 + k * 2 + 1, none⟩) l1, <- zj2 p q]; exact g1 (k * 2 + 1) (by omega)
    have hd2 : wr.cell? ⟨b2, o2 + k * 2 + 1, none⟩ = some (.int .i64 (q k)) := by rw [hF.cell (p := ⟨b2, o2 + k * 2 + 1, none⟩) l2, <- zj2 p q]; exact g2 (k * 2 + 1) (by omega)
    clear g1 g2 H1 H2
    go_wp2
    go_region_with (go_at_call 123; refine (zrg _ _ _).mono ?_; rintro e w' ⟨rfl, hb⟩)
    all_goals
     have hB := zb hF.drew hb
     go_wp2
     go_roundw
     case rel => exact ⟨k + 1, by omega, by go_num, hB⟩
     case measure => simp [intOf]; omega
  · have hge : (n : Int) <= (k : Int) := by omega
    go_wp2
    go_ret
    exact ⟨rfl, hF⟩
theorem zuz : (Tryz.prog.info? 9).map (fun i => (i.zero, i.size, i.bytes)) = some (some (.string ⟨#[]⟩), 1, 16) := by kernel_rfl
theorem zu0 (l : Int) (h0 : 0 <= l) (h1 : l <= 1048576) (w : World) : (Instr.makeSlice 23 (.int .i64 l) (.int .i64 l)).run Tryz.prog w = .ok (.slice (some ⟨w.heap.size, 0, none⟩) l.toNat l.toNat) (w.alloc (.cells (madeCells #[.string ⟨#[]⟩] (l.toNat)) 9)) := by
 obtain ⟨i, hi, hzz⟩ := Option.map_eq_some_iff.1 zuz
 simp only [Prod.mk.injEq] at hzz
 obtain ⟨hz, hs, hb⟩ := hzz
 have := run_make (P := Tryz.prog) w 23 9 i _ Tryz.underlying23 hi hz .i64 .i64 l l h0 (Int.le_refl _) (by rw [hb]; omega) (by omega)
 rw [hs, Nat.mul_one] at this
 exact this
theorem zhu (a : Option Addr) (n cap : Nat) (s : Nat -> ByteArray) (T : Nat) (w : World) (hs : TxF T w (.slice a n cap) n s) (hn : n <= 1048576) :
 Calls Tryz.prog 18 #[.slice a n cap] w fun e w' => e = .returned (.slice (some ⟨w.heap.size, 0, none⟩) n n) /\ w'.rowIs w.heap.size 9 n (fun i => .string (s i)) /\ Below w.heap.size w w' := by
 have hn' : (n : Int) <= 1048576 := by omega
 have hm1 := zu0 (n : Int) (by omega) (by omega)
 rw [Int.toNat_natCast] at hm1
 have HS : Hid (SlF w.heap.size w (.slice a n cap) n n (fun i => .string (s i))) := SlF.here hs
 clear hs
 go_enter Tryz.func18, Tryz.ntmps18
 go_wp2
 go_loopw [4] (fun u4 wr => ∃ k : Nat, k <= n /\ u4 = .int .i64 k /\ zcw 9 w wr w.heap.size n (fun i => .string (s i)) k) (fun u4 _ => n - (intOf u4).toNat)
 case atStart =>
  obtain ⟨g, hg⟩ := rowIs_made #[.string ⟨#[]⟩] (by decide) w n 9
  exact ⟨0, Nat.zero_le _, rfl, (Below.refl _ _).alloc (Nat.le_refl _) _, g, hg, fun j hj => by omega⟩
 case round =>
  obtain ⟨k, hk, rfl, hF⟩ := hrel
  by_cases hlt : k < n
  · have hlt' : (k : Int) < (n : Int) := by omega
    obtain ⟨br, offr, cap', hv, _, lbr, hcr⟩ := HS.out.parts (k := 0) (by omega)
    simp only [Value.slice.injEq] at hv
    obtain ⟨rfl, _, rfl⟩ := hv
    have hc1 : wr.cell? ⟨br, offr + k, none⟩ = some (.string (s k)) := by rw [hF.1.cell (p := ⟨br, offr + k, none⟩) lbr]; exact hcr k hlt
    have HF : Hid (zcw 9 w wr w.heap.size n (fun i => .string (s i)) k) := hF
    obtain ⟨gK, hgK, -⟩ := hF.2
    have lK : w.heap.size < wr.heap.size := hgK.lt
    have g0 := hgK.cell (i := k) hlt
    have gf := hgK.frozen
    clear hF hcr HS hm1 hgK
    go_wp2
    exact ⟨⟨k + 1, hlt, by go_num, zhs (f := fun i => .string (s i)) HF.out (Nat.le_refl _)⟩, by simp [intOf]; omega⟩
  · have hge : (n : Int) <= (k : Int) := by omega
    have hkn : k = n := by omega
    have HF : Hid (zcw 9 w wr w.heap.size n (fun i => .string (s i)) n) := hkn ▸ hF
    clear hkn hF
    go_wp2
    go_ret
    exact ⟨rfl, zht HF.out, HF.out.1⟩
theorem zgx (T1 T2 : Nat) (a1 a2 : Option Addr) (n c1 c2 : Nat) (s : Nat -> ByteArray) (w : World) (h1 : TxF T1 w (.slice a1 n c1) n s) (h2 : TxF T2 w (.slice a2 n c2) n s) (hn : n <= 1048576) :
 Calls Tryz.prog 25 #[.slice a1 n c1, .slice a2 n c2] w fun e w' => e = .returned (.bool true) /\ Below w.heap.size w w' := by
 have H1 : Hid (SlF w.heap.size w (.slice a1 n c1) n n (fun i => .string (s i))) := SlF.here h1
 have H2 : Hid (SlF w.heap.size w (.slice a2 n c2) n n (fun i => .string (s i))) := SlF.here h2
 have hn' : (n : Int) <= 1048576 := by omega
 clear h1 h2
 go_enter Tryz.func25, Tryz.ntmps25
 go_wp2
 go_loopw [5] (fun i wr => ∃ k : Nat, k <= n /\ i = .int .i64 k /\ Below w.heap.size w wr) (fun i _ => n - (intOf i).toNat)
 case atStart => exact ⟨0, Nat.zero_le _, rfl, Below.refl _ _⟩
 case round =>
  obtain ⟨k, hk, rfl, hF⟩ := hrel
  by_cases hlt : k < n
  · have hlt' : (k : Int) < (n : Int) := by omega
    obtain ⟨b1, o1, cap', hv, _, l1, g1⟩ := H1.out.parts (k := 0) (by omega)
    simp only [Value.slice.injEq] at hv
    obtain ⟨rfl, _, rfl⟩ := hv
    obtain ⟨b2, o2, cap', hv, _, l2, g2⟩ := H2.out.parts (k := 0) (by omega)
    simp only [Value.slice.injEq] at hv
    obtain ⟨rfl, _, rfl⟩ := hv
    have hc1 : wr.cell? ⟨b1, o1 + k, none⟩ = some (.string (s k)) := by rw [hF.cell (p := ⟨b1, o1 + k, none⟩) l1]; exact g1 k hlt
    have hc2 : wr.cell? ⟨b2, o2 + k, none⟩ = some (.string (s k)) := by rw [hF.cell (p := ⟨b2, o2 + k, none⟩) l2]; exact g2 k hlt
    clear g1 g2 H1 H2
    generalize s k = x at hc1 hc2
    go_wp2
    go_quiet (fail)
    go_wp2
    go_roundw
    case rel => exact ⟨k + 1, by omega, by go_num, below_drewN hF _⟩
    case measure => simp [intOf]; omega
  · have hge : (n : Int) <= (k : Int) := by omega
    go_wp2
    go_ret
    exact ⟨rfl, hF⟩
end Go.Proofs.YtglolopfeambfaaGreat
