/- - -/
import Derived.Test.YtmckcnmlhgpnhaaGreatWMkP
import Derived.Laws.MakeOwn
import Derived.Deep.CutRange
import Derived.Deep.RegionWith
namespace Go.Proofs.YtmckcnmlhgpnhaaGreat
set_option maxRecDepth 20000
open Go.RowKit
set_option linter.unusedSimpArgs false
set_option linter.unusedVariables false
def zc0 (t : TypeId) (w wr : World) (K m : Nat) (f : Nat -> Value) (k : Nat) : Prop := Below w.heap.size w wr /\ ∃ g, wr.rowIs K t m g /\ ∀ j, j < k -> g j = f j
theorem zh2 {t : TypeId} {w wr : World} {K m : Nat} {f : Nat -> Value} {k : Nat} (h : zc0 t w wr K m f k) (hK : w.heap.size <= K) : zc0 t w (wr.setCell ⟨K, k, none⟩ (f k)) K m f (k + 1) := by
 obtain ⟨h0, g, h1, h2⟩ := h
 refine ⟨h0.setCell (p := ⟨K, k, none⟩) hK _, _, h1.set k _, fun j hj => ?_⟩
 by_cases e : j = k
 · subst e
   simp
 · rw [if_neg (by omega)]
   exact h2 j (by omega)
theorem zli {t : TypeId} {w wr : World} {K m : Nat} {f : Nat -> Value} {k : Nat} (h : zc0 t w wr K m f k) (hK : w.heap.size <= K) {u v : Value} (hu : f k = u) (hv : f (k + 1) = v) : zc0 t w ((wr.setCell ⟨K, k, none⟩ u).setCell ⟨K, k + 1, none⟩ v) K m f (k + 2) := by
 subst hu hv
 exact zh2 (zh2 h hK) hK
theorem zh3 {t : TypeId} {w wr : World} {K m : Nat} {f : Nat -> Value} (h : zc0 t w wr K m f m) : wr.rowIs K t m f := by
 obtain ⟨h0, g, h1, h2⟩ := h
 exact h1.congr h2
theorem ziz {t : TypeId} {w wr w1 : World} {K m : Nat} {f : Nat -> Value} {k : Nat} (h : zc0 t w wr K m f k) (hb : Below wr.heap.size wr w1) : zc0 t w w1 K m f k := by
 obtain ⟨h0, g, h1, h2⟩ := h
 exact ⟨zc h0 hb, g, h1.of_block (hb.block _ h1.lt), h2⟩
theorem rowIs_made (A : Array Value) (hA : 0 < A.size) (w : World) (n : Nat) (t : TypeId) : ∃ g, (w.alloc (.cells (madeCells A n) t)).rowIs w.heap.size t n g :=
 ⟨fun i => (madeCells A n).getD i (.bool false), _, Go.Deep.blk_alloc_new _ _, size_madeCells _ _, fun i hi => by
  simp [Array.getD, size_madeCells, hi]⟩
theorem zwz : (Tryz.prog.info? 206).map (fun i => (i.zero, i.size, i.bytes)) = some (some (.agg #[.bool false, .int .i64 0]), 2, 16) := by kernel_rfl
theorem zw0 (l : Int) (h0 : 0 <= l) (h1 : l <= 1048576) (w : World) : (Instr.makeSlice 173 (.int .i64 l) (.int .i64 l)).run Tryz.prog w = .ok (.slice (some ⟨w.heap.size, 0, none⟩) l.toNat l.toNat) (w.alloc (.cells (madeCells #[.bool false, .int .i64 0] (l.toNat * 2)) 206)) := by
 obtain ⟨i, hi, hzz⟩ := Option.map_eq_some_iff.1 zwz
 simp only [Prod.mk.injEq] at hzz
 obtain ⟨hz, hs, hb⟩ := hzz
 have := run_make (P := Tryz.prog) w 173 206 i _ Tryz.underlying173 hi hz .i64 .i64 l l h0 (Int.le_refl _) (by rw [hb]; omega) (by omega)
 rw [hs] at this
 exact this
theorem zvy (p0 : Bool) (q0 : Int) (w : World) :
 Calls Tryz.prog 204 #[.agg #[.bool p0, .int .i64 q0]] w fun e w' => e = .returned (.agg #[.bool p0, .int .i64 q0]) /\ Below w.heap.size w w' := by
 go_enter Tryz.func204, Tryz.ntmps204
 go_wp2
 exact bodyPost_ret (v := .agg #[.bool p0, .int .i64 q0]) (by simp [results, Tryz.results204, go_sem]) rfl ⟨rfl, (((Below.refl _ _).alloc (Nat.le_refl _) _).alloc (by simp) _).alloc (by simp; omega) _⟩
theorem zvz (a : Option Addr) (n cap : Nat) (p : Nat -> Bool) (q : Nat -> Int) (T : Nat) (w : World) (hs : SlF T w (.slice a n cap) n (2 * n) (upF p q)) (hn : n <= 1048576) :
 Calls Tryz.prog 178 #[.slice a n cap] w fun e w' => e = .returned (.slice (some ⟨w.heap.size, 0, none⟩) n n) /\ w'.rowIs w.heap.size 206 (n * 2) (upF p q) /\ Below w.heap.size w w' := by
 have hn' : (n : Int) <= 1048576 := by omega
 have hm1 := zw0 (n : Int) (by omega) (by omega)
 rw [Int.toNat_natCast] at hm1
 have HS : Hid (SlF w.heap.size w (.slice a n cap) n (2 * n) (upF p q)) := hs.here
 clear hs
 go_enter Tryz.func178, Tryz.ntmps178
 go_wp2
 go_loopw [4] (fun u4 wr => ∃ k : Nat, k <= n /\ u4 = .int .i64 k /\ zc0 206 w wr w.heap.size (n * 2) (upF p q) (k * 2)) (fun u4 _ => n - (intOf u4).toNat)
 case atStart =>
  obtain ⟨g, hg⟩ := rowIs_made #[.bool false, .int .i64 0] (by decide) w (n * 2) 206
  exact ⟨0, Nat.zero_le _, rfl, (Below.refl _ _).alloc (Nat.le_refl _) _, g, hg, fun j hj => by omega⟩
 case round =>
  obtain ⟨k, hk, rfl, hF⟩ := hrel
  by_cases hlt : k < n
  · have hlt' : (k : Int) < (n : Int) := by omega
    obtain ⟨br, offr, cap', hv, _, lbr, hcr⟩ := HS.out.parts (k := 0) (by omega)
    simp only [Value.slice.injEq] at hv
    obtain ⟨rfl, _, rfl⟩ := hv
    have hc1 : wr.cell? ⟨br, offr + k * 2, none⟩ = some (upF p q (k * 2)) := by rw [hF.1.cell (p := ⟨br, offr + k * 2, none⟩) lbr]; exact hcr (k * 2) (by omega)
    have hd1 : wr.cell? ⟨br, offr + k * 2 + 1, none⟩ = some (upF p q (k * 2 + 1)) := by rw [hF.1.cell (p := ⟨br, offr + k * 2 + 1, none⟩) lbr]; exact hcr (k * 2 + 1) (by omega)
    have e0 := zkc p q k
    have e1 := zkd p q k
    rw [e0] at hc1
    rw [e1] at hd1
    have E0 : Hid (upF p q (k * 2) = .bool (p k)) := e0
    have E1 : Hid (upF p q (k * 2 + 1) = .int .i64 (q k)) := e1
    have HF : Hid (zc0 206 w wr w.heap.size (n * 2) (upF p q) (k * 2)) := hF
    obtain ⟨gK, hgK, -⟩ := hF.2
    have lK : w.heap.size < wr.heap.size := hgK.lt
    clear hF hcr HS hm1 hgK e0 e1
    go_wp2_with (go_at_call 204; refine (zvy _ _ _).mono ?_; rintro e w1 ⟨rfl, b1⟩; have F1 : Hid (zc0 206 w w1 w.heap.size (n * 2) (upF p q) (k * 2)) := ziz HF.out b1; obtain ⟨g, hg, -⟩ := F1.out.2; have g0 := hg.cell (i := k * 2) (by omega); have g1 := hg.cell (i := k * 2 + 1) (by omega); have gf := hg.frozen; clear hg b1)
    exact ⟨⟨k + 1, hlt, by go_num, by rw [Nat.succ_mul]; exact zli F1.out (Nat.le_refl _) E0.out E1.out⟩, by simp [intOf]; omega⟩
  · have hge : (n : Int) <= (k : Int) := by omega
    have hkn : k = n := by omega
    have HF : Hid (zc0 206 w wr w.heap.size (n * 2) (upF p q) (n * 2)) := hkn ▸ hF
    clear hkn hF
    go_wp2
    go_ret
    exact ⟨rfl, zh3 HF.out, HF.out.1⟩
theorem zua (p0 : Bool) (q0 : Int) (w : World) :
 Calls Tryz.prog 206 #[.agg #[.bool p0, .int .i64 q0], .agg #[.bool p0, .int .i64 q0]] w fun e w' => e = .returned (.bool true) /\ Below w.heap.size w w' := by
 go_enter Tryz.func206, Tryz.ntmps206
 go_wp2
 go_ret
 exact ⟨rfl, ((Below.refl _ _).alloc (Nat.le_refl _) _).alloc (by simp) _⟩
theorem zr6 (T1 T2 : Nat) (a1 a2 : Option Addr) (n c1 c2 : Nat) (p : Nat -> Bool) (q : Nat -> Int) (w : World) (h1 : SlF T1 w (.slice a1 n c1) n (2 * n) (upF p q)) (h2 : SlF T2 w (.slice a2 n c2) n (2 * n) (upF p q)) (hn : n <= 1048576) :
 Calls Tryz.prog 183 #[.slice a1 n c1, .slice a2 n c2] w fun e w' => e = .returned (.bool true) /\ Below w.heap.size w w' := by
 have H1 : Hid (SlF w.heap.size w (.slice a1 n c1) n (2 * n) (upF p q)) := h1.here
 have H2 : Hid (SlF w.heap.size w (.slice a2 n c2) n (2 * n) (upF p q)) := h2.here
 have hn' : (n : Int) <= 1048576 := by omega
 clear h1 h2
 go_enter Tryz.func183, Tryz.ntmps183
 go_wp2
 go_loopw [5] (fun i wr => ∃ k : Nat, k <= n /\ i = .int .i64 k /\ Below w.heap.size w wr) (fun i _ => n - (intOf i).toNat)
 case atStart => exact ⟨0, Nat.zero_le _, rfl, Below.refl _ _⟩
 case round =>
  obtain ⟨k, hk, rfl, hF⟩ := hrel
  by_cases hlt : k < n
  · have hlt' : (k : Int) < (n : Int) := by omega
    obtain ⟨b1, o1, cap', hv, _, l1, g1⟩ := H1.out.parts (k := 0) (by omega)
    simp only [Value.slice.injEq] at hv
    obtain ⟨rfl, _, rfl⟩ := hv
    obtain ⟨b2, o2, cap', hv, _, l2, g2⟩ := H2.out.parts (k := 0) (by omega)
    simp only [Value.slice.injEq] at hv
    obtain ⟨rfl, _, rfl⟩ := hv
    have hc1 : wr.cell? ⟨b1, o1 + k * 2, none⟩ = some (.bool (p k)) := by rw [hF.cell (p := ⟨b1, o1 + k * 2, none⟩) l1, <- zkc p q]; exact g1 (k * 2) (by omega)
    have hc2 : wr.cell? ⟨b2, o2 + k * 2, none⟩ = some (.bool (p k)) := by rw [hF.cell (p := ⟨b2, o2 + k * 2, none⟩) l2, <- zkc p q]; exact g2 (k * 2) (by omega)
    have hd1 : wr.cell? ⟨b1, o1 + k * 2 + 1, none⟩ = some (.int .i64 (q k)) := by rw [hF.cell (p := ⟨b1, o1 + k * 2 + 1, none⟩) l1, <- zkd p q]; exact g1 (k * 2 + 1) (by omega)
    have hd2 : wr.cell? ⟨b2, o2 + k * 2 + 1, none⟩ = some (.int .i64 (q k)) := by rw [hF.cell (p := ⟨b2, o2 + k * 2 + 1, none⟩) l2, <- zkd p q]; exact g2 (k * 2 + 1) (by omega)
    clear g1 g2 H1 H2
    go_wp2
    go_region_with (go_at_call 206; refine (zua _ _ _).mono ?_; rintro e w' ⟨rfl, hb⟩)
    all_goals
     have hB := zc hF.drew hb
     go_wp2
     go_roundw
     case rel => exact ⟨k + 1, by omega, by go_num, hB⟩
     case measure => simp [intOf]; omega
  · have hge : (n : Int) <= (k : Int) := by omega
    go_wp2
    go_ret
    exact ⟨rfl, hF⟩
theorem zv0 : (Tryz.prog.info? 178).map (fun i => (i.zero, i.size, i.bytes)) = some (some (.agg #[.int .i64 0, .int .i64 0]), 2, 16) := by kernel_rfl
theorem zv1 (l : Int) (h0 : 0 <= l) (h1 : l <= 1048576) (w : World) : (Instr.makeSlice 174 (.int .i64 l) (.int .i64 l)).run Tryz.prog w = .ok (.slice (some ⟨w.heap.size, 0, none⟩) l.toNat l.toNat) (w.alloc (.cells (madeCells #[.int .i64 0, .int .i64 0] (l.toNat * 2)) 178)) := by
 obtain ⟨i, hi, hzz⟩ := Option.map_eq_some_iff.1 zv0
 simp only [Prod.mk.injEq] at hzz
 obtain ⟨hz, hs, hb⟩ := hzz
 have := run_make (P := Tryz.prog) w 174 178 i _ Tryz.underlying174 hi hz .i64 .i64 l l h0 (Int.le_refl _) (by rw [hb]; omega) (by omega)
 rw [hs] at this
 exact this
theorem zub (p0 : Int) (q0 : Int) (w : World) :
 Calls Tryz.prog 205 #[.agg #[.int .i64 p0, .int .i64 q0]] w fun e w' => e = .returned (.agg #[.int .i64 p0, .int .i64 q0]) /\ Below w.heap.size w w' := by
 go_enter Tryz.func205, Tryz.ntmps205
 go_wp2
 exact bodyPost_ret (v := .agg #[.int .i64 p0, .int .i64 q0]) (by simp [results, Tryz.results205, go_sem]) rfl ⟨rfl, (((Below.refl _ _).alloc (Nat.le_refl _) _).alloc (by simp) _).alloc (by simp; omega) _⟩
theorem zuc (a : Option Addr) (n cap : Nat) (p q : Nat -> Int) (T : Nat) (w : World) (hs : SlF T w (.slice a n cap) n (2 * n) (inF p q)) (hn : n <= 1048576) :
 Calls Tryz.prog 179 #[.slice a n cap] w fun e w' => e = .returned (.slice (some ⟨w.heap.size, 0, none⟩) n n) /\ w'.rowIs w.heap.size 178 (n * 2) (inF p q) /\ Below w.heap.size w w' := by
 have hn' : (n : Int) <= 1048576 := by omega
 have hm1 := zv1 (n : Int) (by omega) (by omega)
 rw [Int.toNat_natCast] at hm1
 have HS : Hid (SlF w.heap.size w (.slice a n cap) n (2 * n) (inF p q)) := hs.here
 clear hs
 go_enter Tryz.func179, Tryz.ntmps179
 go_wp2
 go_loopw [4] (fun u4 wr => ∃ k : Nat, k <= n /\ u4 = .int .i64 k /\ zc0 178 w wr w.heap.size (n * 2) (inF p q) (k * 2)) (fun u4 _ => n - (intOf u4).toNat)
 case atStart =>
  obtain ⟨g, hg⟩ := rowIs_made #[.int .i64 0, .int .i64 0] (by decide) w (n * 2) 178
  exact ⟨0, Nat.zero_le _, rfl, (Below.refl _ _).alloc (Nat.le_refl _) _, g, hg, fun j hj => by omega⟩
 case round =>
  obtain ⟨k, hk, rfl, hF⟩ := hrel
  by_cases hlt : k < n
  · have hlt' : (k : Int) < (n : Int) := by omega
    obtain ⟨br, offr, cap', hv, _, lbr, hcr⟩ := HS.out.parts (k := 0) (by omega)
    simp only [Value.slice.injEq] at hv
    obtain ⟨rfl, _, rfl⟩ := hv
    have hc1 : wr.cell? ⟨br, offr + k * 2, none⟩ = some (inF p q (k * 2)) := by rw [hF.1.cell (p := ⟨br, offr + k * 2, none⟩) lbr]; exact hcr (k * 2) (by omega)
    have hd1 : wr.cell? ⟨br, offr + k * 2 + 1, none⟩ = some (inF p q (k * 2 + 1)) := by rw [hF.1.cell (p := ⟨br, offr + k * 2 + 1, none⟩) lbr]; exact hcr (k * 2 + 1) (by omega)
    have e0 := zhh p q k
    have e1 := zke p q k
    rw [e0] at hc1
    rw [e1] at hd1
    have E0 : Hid (inF p q (k * 2) = .int .i64 (p k)) := e0
    have E1 : Hid (inF p q (k * 2 + 1) = .int .i64 (q k)) := e1
    have HF : Hid (zc0 178 w wr w.heap.size (n * 2) (inF p q) (k * 2)) := hF
    obtain ⟨gK, hgK, -⟩ := hF.2
    have lK : w.heap.size < wr.heap.size := hgK.lt
    clear hF hcr HS hm1 hgK e0 e1
    go_wp2_with (go_at_call 205; refine (zub _ _ _).mono ?_; rintro e w1 ⟨rfl, b1⟩; have F1 : Hid (zc0 178 w w1 w.heap.size (n * 2) (inF p q) (k * 2)) := ziz HF.out b1; obtain ⟨g, hg, -⟩ := F1.out.2; have g0 := hg.cell (i := k * 2) (by omega); have g1 := hg.cell (i := k * 2 + 1) (by omega); have gf := hg.frozen; clear hg b1)
    exact ⟨⟨k + 1, hlt, by go_num, by rw [Nat.succ_mul]; exact zli F1.out (Nat.le_refl _) E0.out E1.out⟩, by simp [intOf]; omega⟩
  · have hge : (n : Int) <= (k : Int) := by omega
    have hkn : k = n := by omega
    have HF : Hid (zc0 178 w wr w.heap.size (n * 2) (inF p q) (n * 2)) := hkn ▸ hF
    clear hkn hF
    go_wp2
    go_ret
    exact ⟨rfl, zh3 HF.out, HF.out.1⟩
theorem zr7 (p0 : Int) (q0 : Int) (w : World) :
 Calls Tryz.prog 207 #[.agg #[.int .i64 p0, .int .i64 q0], .agg #[.int .i64 p0, .int .i64 q0]] w fun e w' => e = .returned (.bool true) /\ Below w.heap.size w w' := by
 go_enter Tryz.func207, Tryz.ntmps207
 go_wp2
 go_ret
 exact ⟨rfl, ((Below.refl _ _).alloc (Nat.le_refl _) _).alloc (by simp) _⟩
theorem zpj (T1 T2 : Nat) (a1 a2 : Option Addr) (n c1 c2 : Nat) (p q : Nat -> Int) (w : World) (h1 : SlF T1 w (.slice a1 n c1) n (2 * n) (inF p q)) (h2 : SlF T2 w (.slice a2 n c2) n (2 * n) (inF p q)) (hn : n <= 1048576) :
 Calls Tryz.prog 184 #[.slice a1 n c1, .slice a2 n c2] w fun e w' => e = .returned (.bool true) /\ Below w.heap.size w w' := by
 have H1 : Hid (SlF w.heap.size w (.slice a1 n c1) n (2 * n) (inF p q)) := h1.here
 have H2 : Hid (SlF w.heap.size w (.slice a2 n c2) n (2 * n) (inF p q)) := h2.here
 have hn' : (n : Int) <= 1048576 := by omega
 clear h1 h2
 go_enter Tryz.func184, Tryz.ntmps184
 go_wp2
 go_loopw [5] (fun i wr => ∃ k : Nat, k <= n /\ i = .int .i64 k /\ Below w.heap.size w wr) (fun i _ => n - (intOf i).toNat)
 case atStart => exact ⟨0, Nat.zero_le _, rfl, Below.refl _ _⟩
 case round =>
  obtain ⟨k, hk, rfl, hF⟩ := hrel
  by_cases hlt : k < n
  · have hlt' : (k : Int) < (n : Int) := by omega
    obtain ⟨b1, o1, cap', hv, _, l1, g1⟩ := H1.out.parts (k := 0) (by omega)
    simp only [Value.slice.injEq] at hv
    obtain ⟨rfl, _, rfl⟩ := hv
    obtain ⟨b2, o2, cap', hv, _, l2, g2⟩ := H2.out.parts (k := 0) (by omega)
    simp only [Value.slice.injEq] at hv
    obtain ⟨rfl, _, rfl⟩ := hv
    have hc1 : wr.cell? ⟨b1, o1 + k * 2, none⟩ = some (.int .i64 (p k)) := by rw [hF.cell (p := ⟨b1, o1 + k * 2, none⟩) l1, <- zhh p q]; exact g1 (k * 2) (by omega)
    have hc2 : wr.cell? ⟨b2, o2 + k * 2, none⟩ = some (.int .i64 (p k)) := by rw [hF.cell (p := ⟨b2, o2 + k * 2, none⟩) l2, <- zhh p q]; exact g2 (k * 2) (by omega)
    have hd1 : wr.cell? ⟨b1, o1 + k * 2 + 1, none⟩ = some (.int .i64 (q k)) := by rw [hF.cell (p := ⟨b1, o1 + k * 2 + 1, none⟩) l1, <- zke p q]; exact g1 (k * 2 + 1) (by omega)
    have hd2 : wr.cell? ⟨b2, o2 + k * 2 + 1, none⟩ = some (.int .i64 (q k)) := by rw [hF.cell (p := ⟨b2, o2 + k * 2 + 1, none⟩) l2, <- zke p q]; exact g2 (k * 2 + 1) (by omega)
    clear g1 g2 H1 H2
    go_wp2
    go_region_with (go_at_call 207; refine (zr7 _ _ _).mono ?_; rintro e w' ⟨rfl, hb⟩)
    all_goals
     have hB := zc hF.drew hb
     go_wp2
     go_roundw
     case rel => exact ⟨k + 1, by omega, by go_num, hB⟩
     case measure => simp [intOf]; omega
  · have hge : (n : Int) <= (k : Int) := by omega
    go_wp2
    go_ret
    exact ⟨rfl, hF⟩
theorem zv2 : (Tryz.prog.info? 9).map (fun i => (i.zero, i.size, i.bytes)) = some (some (.string ⟨#[]⟩), 1, 16) := by kernel_rfl
theorem zv3 (l : Int) (h0 : 0 <= l) (h1 : l <= 1048576) (w : World) : (Instr.makeSlice 35 (.int .i64 l) (.int .i64 l)).run Tryz.prog w = .ok (.slice (some ⟨w.heap.size, 0, none⟩) l.toNat l.toNat) (w.alloc (.cells (madeCells #[.string ⟨#[]⟩] (l.toNat)) 9)) := by
 obtain ⟨i, hi, hzz⟩ := Option.map_eq_some_iff.1 zv2
 simp only [Prod.mk.injEq] at hzz
 obtain ⟨hz, hs, hb⟩ := hzz
 have := run_make (P := Tryz.prog) w 35 9 i _ Tryz.underlying35 hi hz .i64 .i64 l l h0 (Int.le_refl _) (by rw [hb]; omega) (by omega)
 rw [hs, Nat.mul_one] at this
 exact this
theorem zh4 (a : Option Addr) (n cap : Nat) (s : Nat -> ByteArray) (T : Nat) (w : World) (hs : TxF T w (.slice a n cap) n s) (hn : n <= 1048576) :
 Calls Tryz.prog 60 #[.slice a n cap] w fun e w' => e = .returned (.slice (some ⟨w.heap.size, 0, none⟩) n n) /\ w'.rowIs w.heap.size 9 n (fun i => .string (s i)) /\ Below w.heap.size w w' := by
 have hn' : (n : Int) <= 1048576 := by omega
 have hm1 := zv3 (n : Int) (by omega) (by omega)
 rw [Int.toNat_natCast] at hm1
 have HS : Hid (SlF w.heap.size w (.slice a n cap) n n (fun i => .string (s i))) := SlF.here hs
 clear hs
 go_enter Tryz.func60, Tryz.ntmps60
 go_wp2
 go_loopw [4] (fun u4 wr => ∃ k : Nat, k <= n /\ u4 = .int .i64 k /\ zc0 9 w wr w.heap.size n (fun i => .string (s i)) k) (fun u4 _ => n - (intOf u4).toNat)
 case atStart =>
  obtain ⟨g, hg⟩ := rowIs_made #[.string ⟨#[]⟩] (by decide) w n 9
  exact ⟨0, Nat.zero_le _, rfl, (Below.refl _ _).alloc (Nat.le_refl _) _, g, hg, fun j hj => by omega⟩
 case round =>
  obtain ⟨k, hk, rfl, hF⟩ := hrel
  by_cases hlt : k < n
  · have hlt' : (k : Int) < (n : Int) := by omega
    obtain ⟨br, offr, cap', hv, _, lbr, hcr⟩ := HS.out.parts (k := 0) (by omega)
    simp only [Value.slice.injEq] at hv
    obtain ⟨rfl, _, rfl⟩ := hv
    have hc1 : wr.cell? ⟨br, offr + k, none⟩ = some (.string (s k)) := by rw [hF.1.cell (p := ⟨br, offr + k, none⟩) lbr]; exact hcr k hlt
    have HF : Hid (zc0 9 w wr w.heap.size n (fun i => .string (s i)) k) := hF
    obtain ⟨gK, hgK, -⟩ := hF.2
    have lK : w.heap.size < wr.heap.size := hgK.lt
    have g0 := hgK.cell (i := k) hlt
    have gf := hgK.frozen
    clear hF hcr HS hm1 hgK
    go_wp2
    exact ⟨⟨k + 1, hlt, by go_num, zh2 (f := fun i => .string (s i)) HF.out (Nat.le_refl _)⟩, by simp [intOf]; omega⟩
  · have hge : (n : Int) <= (k : Int) := by omega
    have hkn : k = n := by omega
    have HF : Hid (zc0 9 w wr w.heap.size n (fun i => .string (s i)) n) := hkn ▸ hF
    clear hkn hF
    go_wp2
    go_ret
    exact ⟨rfl, zh3 HF.out, HF.out.1⟩
theorem zg3 (T1 T2 : Nat) (a1 a2 : Option Addr) (n c1 c2 : Nat) (s : Nat -> ByteArray) (w : World) (h1 : TxF T1 w (.slice a1 n c1) n s) (h2 : TxF T2 w (.slice a2 n c2) n s) (hn : n <= 1048576) :
 Calls Tryz.prog 65 #[.slice a1 n c1, .slice a2 n c2] w fun e w' => e = .returned (.bool true) /\ Below w.heap.size w w' := by
 have H1 : Hid (SlF w.heap.size w (.slice a1 n c1) n n (fun i => .string (s i))) := SlF.here h1
 have H2 : Hid (SlF w.heap.size w (.slice a2 n c2) n n (fun i => .string (s i))) := SlF.here h2
 have hn' : (n : Int) <= 1048576 := by omega
 clear h1 h2
 go_enter Tryz.func65, Tryz.ntmps65
 go_wp2
 go_loopw [5] (fun i wr => ∃ k : Nat, k <= n /\ i = .int .i64 k /\ Below w.heap.size w wr) (fun i _ => n - (intOf i).toNat)
 case atStart => exact ⟨0, Nat.zero_le _, rfl, Below.refl _ _⟩
 case round =>
  obtain ⟨k, hk, rfl, hF⟩ := hrel
  by_cases hlt : k < n
  · have hlt' : (k : Int) < (n : Int) := by omega
    obtain ⟨b1, o1, cap', hv, _, l1, g1⟩ := H1.out.parts (k := 0) (by omega)
    simp only [Value.slice.injEq] at hv
    obtain ⟨rfl, _, rfl⟩ := hv
    obtain ⟨b2, o2, cap', hv, _, l2, g2⟩ := H2.out.parts (k := 0) (by omega)
    simp only [Value.slice.injEq] at hv
    obtain ⟨rfl, _, rfl⟩ := hv
    have hc1 : wr.cell? ⟨b1, o1 + k, none⟩ = some (.string (s k)) := by rw [hF.cell (p := ⟨b1, o1 + k, none⟩) l1]; exact g1 k hlt
    have hc2 : wr.cell? ⟨b2, o2 + k, none⟩ = some (.string (s k)) := by rw [hF.cell (p := ⟨b2, o2 + k, none⟩) l2]; exact g2 k hlt
    clear g1 g2 H1 H2
    generalize s k = x at hc1 hc2
    go_wp2
    go_quiet (fail)
    go_wp2
    go_roundw
    case rel => exact ⟨k + 1, by omega, by go_num, below_drewN hF _⟩
    case measure => simp [intOf]; omega
  · have hge : (n : Int) <= (k : Int) := by omega
    go_wp2
    go_ret
    exact ⟨rfl, hF⟩
theorem zep {W : World} {b n c m : Nat} {f : Nat -> Value} (h : SlF W.heap.size W (.slice (some ⟨b, 0, none⟩) n c) n m f) {k i : Nat} (hne : k ≠ b) (v : Value) : SlF (W.setCell ⟨k, i, none⟩ v).heap.size (W.setCell ⟨k, i, none⟩ v) (.slice (some ⟨b, 0, none⟩) n c) n m f := by
 obtain ⟨a, cap, he, h⟩ := h
 refine ⟨a, cap, he, ?_⟩
 simp only [Value.slice.injEq] at he
 obtain ⟨rfl, _, _⟩ := he
 rcases h with h | ⟨b', off, ha, hb, hb2, hc⟩
 · exact .inl h
 · simp only [Option.some.injEq, Addr.mk.injEq] at ha
   obtain ⟨rfl, rfl, _⟩ := ha
   refine .inr ⟨_, _, rfl, by simpa using hb, by simpa using hb2, fun j hj => ?_⟩
   rw [World.cell?_setCell_other _ _ _ _ (fun e => hne (congrArg Addr.block e))]
   exact hc j hj
theorem ze4 {W : World} {b n c m : Nat} {f : Nat -> Value} (h : SlF W.heap.size W (.slice (some ⟨b, 0, none⟩) n c) n m f) {K : Nat} (hne : K ≠ b) (i0 i1 i2 i3 : Nat) (v0 v1 v2 v3 : Value) : SlF ((((W.setCell ⟨K, i0, none⟩ v0).setCell ⟨K, i1, none⟩ v1).setCell ⟨K, i2, none⟩ v2).setCell ⟨K, i3, none⟩ v3).heap.size ((((W.setCell ⟨K, i0, none⟩ v0).setCell ⟨K, i1, none⟩ v1).setCell ⟨K, i2, none⟩ v2).setCell ⟨K, i3, none⟩ v3) (.slice (some ⟨b, 0, none⟩) n c) n m f :=
 zep (zep (zep (zep h hne _) hne _) hne _) hne _
theorem zij {W : World} {b n m : Nat} {t : TypeId} {f : Nat -> Value} (h : W.rowIs b t m f) : SlF W.heap.size W (.slice (some ⟨b, 0, none⟩) n n) n m f :=
 ⟨_, _, rfl, .inr ⟨_, 0, rfl, h.lt, h.lt, fun i hi => by rw [Nat.zero_add]; exact h.cell hi⟩⟩
set_option maxHeartbeats 1000000 in
theorem zr4 (pa sl : Int) (au : Option Addr) (un cu : Nat) (ac : Option Addr) (cn cc : Nat) (ub : Nat -> Bool) (ui co ca : Nat -> Int) (T : Nat) (w : World) (hs : SlF T w (.slice au un cu) un (2 * un) (upF ub ui)) (hs2 : SlF T w (.slice ac cn cc) cn (2 * cn) (inF co ca)) (hT : T <= w.heap.size) (hn : un <= 1048576) (hn2 : cn <= 1048576) :
 Calls Tryz.prog 139 #[.agg #[.int .i64 pa, .int .i64 sl, .slice au un cu, .slice ac cn cc]] w fun e w' => ∃ b1 b2 : Nat, e = .returned (.agg #[.int .i64 pa, .int .i64 sl, .slice (some ⟨b1, 0, none⟩) un un, .slice (some ⟨b2, 0, none⟩) cn cn]) /\ SlF w'.heap.size w' (.slice (some ⟨b1, 0, none⟩) un un) un (2 * un) (upF ub ui) /\ SlF w'.heap.size w' (.slice (some ⟨b2, 0, none⟩) cn cn) cn (2 * cn) (inF co ca) /\ w.heap.size <= b1 /\ w.heap.size <= b2 /\ Below w.heap.size w w' := by
 have HS : Hid (SlF T w (.slice au un cu) un (2 * un) (upF ub ui)) := hs
 have HS2 : Hid (SlF T w (.slice ac cn cc) cn (2 * cn) (inF co ca)) := hs2
 clear hs hs2
 go_enter Tryz.func139, Tryz.ntmps139
 have B3 : Below w.heap.size w (((w.alloc (.cells #[.int .i64 pa, .int .i64 sl, .slice au un cu, .slice ac cn cc] 172)).alloc (.cells #[.int .i64 0, .int .i64 0, .slice none 0 0, .slice none 0 0] 176)).alloc (.cells #[.int .i64 pa, .int .i64 sl, .slice none 0 0, .slice none 0 0] 176)) := (((Below.refl _ _).alloc (Nat.le_refl _) _).alloc (by simp) _).alloc (by simp; omega) _
 go_wp2_with (first | (go_at_call 178; refine (zvz _ _ _ ub ui _ _ (HS.out.below B3 hT) hn).mono ?_; rintro e w1 ⟨rfl, r1, b1⟩; have c5 := fun i => (zo b1).1 (w.heap.size + 1 + 1) i (by simp); have c4 := fun i => (zo b1).1 (w.heap.size + 1) i (by simp); have c3 := fun i => (zo b1).1 (w.heap.size) i (by simp; omega); have f5 := fun i => (zo b1).2 (w.heap.size + 1 + 1) i (by simp); have f4 := fun i => (zo b1).2 (w.heap.size + 1) i (by simp); have hz : w.heap.size + 1 + 1 + 1 < w1.heap.size := (by have := r1.lt; simp at this; omega); have BB : Hid (Below w.heap.size w w1) := B3.trans (b1.mono (by simp; omega)); have R1 : Hid (w1.rowIs (w.heap.size + 1 + 1 + 1) 206 (un * 2) (upF ub ui)) := (by show World.rowIs _ _ _ _ _; simpa using r1); clear r1 b1))
 obtain ⟨W9, hW9⟩ : ∃ W, W = w1.setCell ⟨w.heap.size + 1 + 1, 2, none⟩ (.slice (some ⟨w.heap.size + 1 + 1 + 1, 0, none⟩) un un) := ⟨_, rfl⟩
 have z9 : W9.heap.size = w1.heap.size := by rw [hW9]; simp
 have B9 : Below w.heap.size w W9 := by rw [hW9]; exact BB.out.setCell (by dsimp only; omega) _
 have k2 : ∀ i, W9.cell? ⟨w.heap.size + 1, i, none⟩ = w1.cell? ⟨w.heap.size + 1, i, none⟩ := fun i => by rw [hW9]; exact World.cell?_setCell_other _ _ _ _ (fun e => by have := congrArg Addr.block e; simp at this)
 have m2 : W9.cell? ⟨w.heap.size + 1 + 1, 2, none⟩ = some (.slice (some ⟨w.heap.size + 1 + 1 + 1, 0, none⟩) un un) := by rw [hW9]; exact World.cell?_setCell_same' _ _ _ (by rw [c5]; simp [go_sem])
 have m0 : W9.cell? ⟨w.heap.size + 1 + 1, 0, none⟩ = some (.int .i64 pa) := by rw [hW9, World.cell?_setCell_other _ _ _ _ (fun e => by have := congrArg Addr.off e; simp at this), c5]; simp [go_sem]
 have m1 : W9.cell? ⟨w.heap.size + 1 + 1, 1, none⟩ = some (.int .i64 sl) := by rw [hW9, World.cell?_setCell_other _ _ _ _ (fun e => by have := congrArg Addr.off e; simp at this), c5]; simp [go_sem]
 have m3 : W9.cell? ⟨w.heap.size + 1 + 1, 3, none⟩ = some (.slice none 0 0) := by rw [hW9, World.cell?_setCell_other _ _ _ _ (fun e => by have := congrArg Addr.off e; simp at this), c5]; simp [go_sem]
 have q0 : W9.cell? ⟨w.heap.size + 1, 0, none⟩ = some (.int .i64 0) := by rw [k2, c4]; simp [go_sem]
 have q1 : W9.cell? ⟨w.heap.size + 1, 1, none⟩ = some (.int .i64 0) := by rw [k2, c4]; simp [go_sem]
 have q2 : W9.cell? ⟨w.heap.size + 1, 2, none⟩ = some (.slice none 0 0) := by rw [k2, c4]; simp [go_sem]
 have q3 : W9.cell? ⟨w.heap.size + 1, 3, none⟩ = some (.slice none 0 0) := by rw [k2, c4]; simp [go_sem]
 have e5 : ∀ i, W9.frozen? ⟨w.heap.size + 1 + 1, i, none⟩ = false := fun i => by rw [hW9]; simp [go_sem, f5]
 have e4 : ∀ i, W9.frozen? ⟨w.heap.size + 1, i, none⟩ = false := fun i => by rw [hW9]; simp [go_sem, f4]
 have R9 : W9.rowIs (w.heap.size + 1 + 1 + 1) 206 (un * 2) (upF ub ui) := by rw [hW9]; exact R1.out.setOther (a := ⟨w.heap.size + 1 + 1, 2, none⟩) (by dsimp only; omega) _
 rw [<- hW9]
 clear hW9 c5 c4 c3 f5 f4 k2 R1 BB
 refine (zuc _ _ _ co ca _ _ (HS2.out.below B9 hT) hn2).mono ?_
 rintro e w2 ⟨rfl, s2, b2⟩
 have hz2 : W9.heap.size <= w2.heap.size := b2.size
 have n0 := ((zo b2).1 (w.heap.size + 1 + 1) 0 (by omega)).trans m0
 have n1 := ((zo b2).1 (w.heap.size + 1 + 1) 1 (by omega)).trans m1
 have n2 := ((zo b2).1 (w.heap.size + 1 + 1) 2 (by omega)).trans m2
 have n3 := ((zo b2).1 (w.heap.size + 1 + 1) 3 (by omega)).trans m3
 have p0 := ((zo b2).1 (w.heap.size + 1) 0 (by omega)).trans q0
 have p1 := ((zo b2).1 (w.heap.size + 1) 1 (by omega)).trans q1
 have p2 := ((zo b2).1 (w.heap.size + 1) 2 (by omega)).trans q2
 have p3 := ((zo b2).1 (w.heap.size + 1) 3 (by omega)).trans q3
 have g5 := fun i => ((zo b2).2 (w.heap.size + 1 + 1) i (by omega)).trans (e5 i)
 have g4 := fun i => ((zo b2).2 (w.heap.size + 1) i (by omega)).trans (e4 i)
 have R2 : Hid (w2.rowIs (w.heap.size + 1 + 1 + 1) 206 (un * 2) (upF ub ui)) := R9.of_block (b2.block _ R9.lt)
 have S2 : Hid (w2.rowIs W9.heap.size 178 (cn * 2) (inF co ca)) := s2
 have BB : Hid (Below w.heap.size w w2) := zc B9 b2
 have lz : Hid (w.heap.size + 1 + 1 + 1 < W9.heap.size) := by show _ < _; omega
 clear m0 m1 m2 m3 q0 q1 q2 q3 e5 e4 R9 s2 b2 B9 HS HS2
 go_wp2
 have i0 : (w2.cell? ⟨w.heap.size + 1, 0, none⟩).isSome = true := by rw [p0]; rfl
 have i1 : (w2.cell? ⟨w.heap.size + 1, 1, none⟩).isSome = true := by rw [p1]; rfl
 have i2 : (w2.cell? ⟨w.heap.size + 1, 2, none⟩).isSome = true := by rw [p2]; rfl
 have i3 : (w2.cell? ⟨w.heap.size + 1, 3, none⟩).isSome = true := by rw [p3]; rfl
 refine bodyPost_ret (v := .agg #[.int .i64 pa, .int .i64 sl, .slice (some ⟨w.heap.size + 1 + 1 + 1, 0, none⟩) un un, .slice (some ⟨W9.heap.size, 0, none⟩) cn cn]) (by simp [results, Tryz.results139, go_sem, i0, i1, i2, i3]) rfl ⟨_, _, rfl, ?_, ?_, by omega, by have := lz.out; omega, ?_⟩
 · refine ze4 (zep ?_ (by omega) _) (by omega) _ _ _ _ _ _ _ _
   exact (Nat.mul_comm un 2) ▸ zij R2.out
 · have := lz.out
   refine ze4 (zep ?_ (by omega) _) (by omega) _ _ _ _ _ _ _ _
   exact (Nat.mul_comm cn 2) ▸ zij S2.out
 · refine Below.setCell (Below.setCell (Below.setCell (Below.setCell (Below.setCell BB.out ?_ _) ?_ _) ?_ _) ?_ _) ?_ _ <;> (dsimp only; omega)
def zfs (w wr : World) (K L : Nat) (X : Nat -> PtD) (j : Nat) : Prop :=
 Below w.heap.size w wr /\ ∃ g, wr.rowIs K 176 (L * 4) g /\ ∀ p, p < j -> ∃ B C, g (p * 4) = .int .i64 (X p).pa /\ g (p * 4 + 1) = .int .i64 (X p).sl /\ g (p * 4 + 2) = .slice (some ⟨B, 0, none⟩) (X p).un (X p).un /\ g (p * 4 + 3) = .slice (some ⟨C, 0, none⟩) (X p).cn (X p).cn /\ K < B /\ K < C /\ SlF wr.heap.size wr (.slice (some ⟨B, 0, none⟩) (X p).un (X p).un) (X p).un (2 * (X p).un) (upF (X p).ub (X p).ui) /\ SlF wr.heap.size wr (.slice (some ⟨C, 0, none⟩) (X p).cn (X p).cn) (X p).cn (2 * (X p).cn) (inF (X p).co (X p).ca)
theorem zph {w wr w1 : World} {K L : Nat} {X : Nat -> PtD} {j : Nat} (h : zfs w wr K L X j) (hb : Below wr.heap.size wr w1) : zfs w w1 K L X j := by
 obtain ⟨h0, g, h1, h2⟩ := h
 refine ⟨zc h0 hb, g, h1.of_block (hb.block _ h1.lt), fun p hp => ?_⟩
 obtain ⟨B, C, g0, g1, g2, g3, hK, hK2, hs, hs2⟩ := h2 p hp
 exact ⟨B, C, g0, g1, g2, g3, hK, hK2, (hs.below hb (Nat.le_refl _)).here, (hs2.below hb (Nat.le_refl _)).here⟩
theorem zr5 {w wr : World} {K L : Nat} {X : Nat -> PtD} {j : Nat} (h : zfs w wr K L X j) (hK : w.heap.size <= K) {x : PtD} (hx : X j = x) {B C : Nat} (hB : K < B) (hC : K < C) (hs : SlF wr.heap.size wr (.slice (some ⟨B, 0, none⟩) x.un x.un) x.un (2 * x.un) (upF x.ub x.ui)) (hs2 : SlF wr.heap.size wr (.slice (some ⟨C, 0, none⟩) x.cn x.cn) x.cn (2 * x.cn) (inF x.co x.ca)) :
 zfs w ((((wr.setCell ⟨K, j * 4, none⟩ (.int .i64 x.pa)).setCell ⟨K, j * 4 + 1, none⟩ (.int .i64 x.sl)).setCell ⟨K, j * 4 + 2, none⟩ (.slice (some ⟨B, 0, none⟩) x.un x.un)).setCell ⟨K, j * 4 + 3, none⟩ (.slice (some ⟨C, 0, none⟩) x.cn x.cn)) K L X (j + 1) := by
 subst hx
 obtain ⟨h0, g, h1, h2⟩ := h
 refine ⟨Below.setCell (Below.setCell (Below.setCell (Below.setCell h0 hK _) hK _) hK _) hK _, _, (((h1.set (j * 4) _).set (j * 4 + 1) _).set (j * 4 + 2) _).set (j * 4 + 3) _, fun p hp => ?_⟩
 by_cases e : p = j
 · subst e
   refine ⟨B, C, ?_, ?_, ?_, ?_, hB, hC, ze4 hs (Nat.ne_of_lt hB) _ _ _ _ _ _ _ _, ze4 hs2 (Nat.ne_of_lt hC) _ _ _ _ _ _ _ _⟩ <;> simp
 · obtain ⟨B', C', g0, g1, g2, g3, hK', hK2', hs', hs2'⟩ := h2 p (by omega)
   refine ⟨B', C', ?_, ?_, ?_, ?_, hK', hK2', ze4 hs' (Nat.ne_of_lt hK') _ _ _ _ _ _ _ _, ze4 hs2' (Nat.ne_of_lt hK2') _ _ _ _ _ _ _ _⟩
   · repeat rw [if_neg (by omega)]
     exact g0
   · repeat rw [if_neg (by omega)]
     exact g1
   · repeat rw [if_neg (by omega)]
     exact g2
   · repeat rw [if_neg (by omega)]
     exact g3
def PtO (B : Nat) (w : World) (v : Value) (L : Nat) (X : Nat -> PtD) : Prop :=
 ∃ K cap, v = .slice (some ⟨K, 0, none⟩) L cap /\ B <= K /\ K < w.heap.size /\ ∀ i, i < L -> ∃ b b' c c', B <= b /\ B <= b' /\ w.cell? ⟨K, i * 4, none⟩ = some (.int .i64 (X i).pa) /\ w.cell? ⟨K, i * 4 + 1, none⟩ = some (.int .i64 (X i).sl) /\ w.cell? ⟨K, i * 4 + 2, none⟩ = some (.slice (some ⟨b, 0, none⟩) (X i).un c) /\ w.cell? ⟨K, i * 4 + 3, none⟩ = some (.slice (some ⟨b', 0, none⟩) (X i).cn c') /\ SlF w.heap.size w (.slice (some ⟨b, 0, none⟩) (X i).un c) (X i).un (2 * (X i).un) (upF (X i).ub (X i).ui) /\ SlF w.heap.size w (.slice (some ⟨b', 0, none⟩) (X i).cn c') (X i).cn (2 * (X i).cn) (inF (X i).co (X i).ca)
theorem PtO.ptF {B : Nat} {w : World} {v : Value} {L : Nat} {X : Nat -> PtD} (h : PtO B w v L X) : PtF w.heap.size w v L X := by
 obtain ⟨K, cap, rfl, hB, hK, h⟩ := h
 refine ⟨_, _, rfl, .inr ⟨K, 0, rfl, hK, hK, fun i hi => ?_⟩⟩
 obtain ⟨b, b', c, c', _, _, h0, h1, h2, h3, h4, h5⟩ := h i hi
 rw [Nat.zero_add]
 exact ⟨_, _, _, _, h0, h1, h2, h3, h4, h5⟩
theorem PtO.set {B : Nat} {w : World} {v : Value} {L : Nat} {X : Nat -> PtD} (h : PtO B w v L X) {k j : Nat} (hk : k < B) (u : Value) : PtO B (w.setCell ⟨k, j, none⟩ u) v L X := by
 obtain ⟨K, cap, rfl, hB, hK, h⟩ := h
 refine ⟨K, cap, rfl, hB, by simpa using hK, fun i hi => ?_⟩
 obtain ⟨b, b', c, c', hb, hb', h0, h1, h2, h3, h4, h5⟩ := h i hi
 have e : ∀ o, (w.setCell ⟨k, j, none⟩ u).cell? ⟨K, o, none⟩ = w.cell? ⟨K, o, none⟩ := fun o => World.cell?_setCell_other _ _ _ _ (fun e => by have := congrArg Addr.block e; simp at this; omega)
 exact ⟨b, b', c, c', hb, hb', by rw [e]; exact h0, by rw [e]; exact h1, by rw [e]; exact h2, by rw [e]; exact h3, zep h4 (by omega) _, zep h5 (by omega) _⟩
theorem PtO.below {B : Nat} {w w' : World} {v : Value} {L : Nat} {X : Nat -> PtD} (h : PtO B w v L X) (hb : Below w.heap.size w w') : PtO B w' v L X := by
 obtain ⟨K, cap, rfl, hB, hK, h⟩ := h
 refine ⟨K, cap, rfl, hB, Nat.lt_of_lt_of_le hK hb.size, fun i hi => ?_⟩
 obtain ⟨b, b', c, c', k1, k2, h0, h1, h2, h3, h4, h5⟩ := h i hi
 have e := fun o => hb.cell (p := ⟨K, o, none⟩) hK
 exact ⟨b, b', c, c', k1, k2, by rw [e]; exact h0, by rw [e]; exact h1, by rw [e]; exact h2, by rw [e]; exact h3, (h4.below hb (Nat.le_refl _)).here, (h5.below hb (Nat.le_refl _)).here⟩
theorem PtO.mono {B C : Nat} {w : World} {v : Value} {L : Nat} {X : Nat -> PtD} (h : PtO B w v L X) (hC : C <= B) : PtO C w v L X := by
 obtain ⟨K, cap, rfl, hB, hK, h⟩ := h
 refine ⟨K, cap, rfl, by omega, hK, fun i hi => ?_⟩
 obtain ⟨b, b', c, c', k1, k2, r⟩ := h i hi
 exact ⟨b, b', c, c', by omega, by omega, r⟩
theorem zt9 {w wr : World} {K L : Nat} {X : Nat -> PtD} (h : zfs w wr K L X L) : PtO K wr (.slice (some ⟨K, 0, none⟩) L L) L X := by
 obtain ⟨h0, g, h1, h2⟩ := h
 refine ⟨_, _, rfl, Nat.le_refl _, h1.lt, fun i hi => ?_⟩
 obtain ⟨B, C, g0, g1, g2, g3, hK, hK2, hs, hs2⟩ := h2 i hi
 exact ⟨_, _, _, _, Nat.le_of_lt hK, Nat.le_of_lt hK2, by rw [h1.cell (by omega), g0], by rw [h1.cell (by omega), g1], by rw [h1.cell (by omega), g2], by rw [h1.cell (by omega), g3], hs, hs2⟩
theorem zwx : (Tryz.prog.info? 176).map (fun i => (i.zero, i.size, i.bytes)) = some (some (.agg #[.int .i64 0, .int .i64 0, .slice none 0 0, .slice none 0 0]), 4, 64) := by kernel_rfl
theorem zwy (l : Int) (h0 : 0 <= l) (h1 : l <= 1048576) (w : World) : (Instr.makeSlice 45 (.int .i64 l) (.int .i64 l)).run Tryz.prog w = .ok (.slice (some ⟨w.heap.size, 0, none⟩) l.toNat l.toNat) (w.alloc (.cells (madeCells #[.int .i64 0, .int .i64 0, .slice none 0 0, .slice none 0 0] (l.toNat * 4)) 176)) := by
 obtain ⟨i, hi, hzz⟩ := Option.map_eq_some_iff.1 zwx
 simp only [Prod.mk.injEq] at hzz
 obtain ⟨hz, hs, hb⟩ := hzz
 have := run_make (P := Tryz.prog) w 45 176 i _ Tryz.underlying45 hi hz .i64 .i64 l l h0 (Int.le_refl _) (by rw [hb]; omega) (by omega)
 rw [hs] at this
 exact this
set_option maxHeartbeats 1000000 in
theorem zpi (a : Option Addr) (L cap : Nat) (X : Nat -> PtD) (T : Nat) (w : World) (hs : PtF T w (.slice a L cap) L X) (hT : T <= w.heap.size) (hn : L <= 1048576) (hX : ∀ j, j < L -> PLe (X j) 1048576) :
 Calls Tryz.prog 105 #[.slice a L cap] w fun e w' => e = .returned (.slice (some ⟨w.heap.size, 0, none⟩) L L) /\ PtO w.heap.size w' (.slice (some ⟨w.heap.size, 0, none⟩) L L) L X /\ Below w.heap.size w w' := by
 have hn' : (L : Int) <= 1048576 := by omega
 have hm1 := zwy (L : Int) (by omega) (by omega)
 rw [Int.toNat_natCast] at hm1
 have HS : Hid (PtF T w (.slice a L cap) L X) := hs
 have HX : Hid (∀ j, j < L -> PLe (X j) 1048576) := hX
 clear hs hX
 go_enter Tryz.func105, Tryz.ntmps105
 go_wp2
 go_loopw [4] (fun u4 wr => ∃ k : Nat, k <= L /\ u4 = .int .i64 k /\ zfs w wr w.heap.size L X k) (fun u4 _ => L - (intOf u4).toNat)
 case atStart =>
  obtain ⟨g, hg⟩ := rowIs_made #[.int .i64 0, .int .i64 0, .slice none 0 0, .slice none 0 0] (by decide) w (L * 4) 176
  exact ⟨0, Nat.zero_le _, rfl, (Below.refl _ _).alloc (Nat.le_refl _) _, g, hg, fun p hp => absurd hp (Nat.not_lt_zero _)⟩
 case round =>
  obtain ⟨j, hk, rfl, hF⟩ := hrel
  by_cases hlt : j < L
  · have hlt' : (j : Int) < (L : Int) := by omega
    obtain ⟨b, off, rfl, lb, lz, hc⟩ := HS.out.at_ hlt
    obtain ⟨ax, cx, ay, cy, c0, c1, c2, c3, sx, sy⟩ := (hc j hlt).below hF.1 hT lb
    obtain ⟨x1, x2⟩ := (HX.out j hlt)
    have HF : Hid (zfs w wr w.heap.size L X j) := hF
    obtain ⟨gK, hgK, -⟩ := hF.2
    have lK : w.heap.size < wr.heap.size := hgK.lt
    clear hgK
    have HE : Hid (∃ x, X j = x) := ⟨_, rfl⟩
    obtain ⟨x, hx⟩ := HE.out
    rw [hx] at c0 c1 c2 c3 sx sy x1 x2
    have Hx : Hid (X j = x) := hx
    obtain ⟨pa, sl, un, ub, ui, cn, co, ca⟩ := x
    simp only at c0 c1 c2 c3 sx sy x1 x2
    have SX : Hid (SlF T wr (.slice ax un cx) un (2 * un) (upF ub ui)) := sx
    have SY : Hid (SlF T wr (.slice ay cn cy) cn (2 * cn) (inF co ca)) := sy
    have hT2 : T <= wr.heap.size := Nat.le_trans hT hF.1.size
    clear hF hc HS HX hm1 HE hx sx sy
    go_wp2_with (go_at_call 139; refine (zr4 _ _ _ _ _ _ _ _ ub ui co ca _ _ SX.out SY.out hT2 x1 x2).mono ?_; rintro e w1 ⟨B, C, rfl, s1, s2, lB, lC, b1⟩; have F1 : Hid (zfs w w1 w.heap.size L X j) := zph HF.out b1; have S1 : Hid (SlF w1.heap.size w1 (.slice (some ⟨B, 0, none⟩) un un) un (2 * un) (upF ub ui)) := s1; have S2 : Hid (SlF w1.heap.size w1 (.slice (some ⟨C, 0, none⟩) cn cn) cn (2 * cn) (inF co ca)) := s2; have HB : Hid (w.heap.size < B) := (by show w.heap.size < B; omega); have HC : Hid (w.heap.size < C) := (by show w.heap.size < C; omega); obtain ⟨g, hg, -⟩ := F1.out.2; have g0 := hg.cell (i := j * 4) (by omega); have g1 := hg.cell (i := j * 4 + 1) (by omega); have g2 := hg.cell (i := j * 4 + 2) (by omega); have g3 := hg.cell (i := j * 4 + 3) (by omega); have gf := hg.frozen; clear hg s1 s2 b1 lB lC)
    exact ⟨⟨j + 1, hlt, by go_num, zr5 F1.out (Nat.le_refl _) Hx.out HB.out HC.out S1.out S2.out⟩, by simp [intOf]; omega⟩
  · have hge : (L : Int) <= (j : Int) := by omega
    have hkn : j = L := by omega
    have HF : Hid (zfs w wr w.heap.size L X L) := hkn ▸ hF
    clear hkn hF
    go_wp2
    go_ret
    exact ⟨rfl, zt9 HF.out, HF.out.1⟩
def MdF (T : Nat) (w : World) (v1 v2 : Value) (L : Nat) (X : Nat -> PtD) (n : Nat) (s : Nat -> ByteArray) : Prop := PtF T w v1 L X /\ TxF T w v2 n s
theorem MdF.below {T C : Nat} {w w' : World} {v1 v2 : Value} {L : Nat} {X : Nat -> PtD} {n : Nat} {s : Nat -> ByteArray} (h : MdF T w v1 v2 L X n s) (hb : Below C w w') (hT : T <= C) : MdF T w' v1 v2 L X n s := ⟨h.1.below hb hT, h.2.below hb hT⟩
theorem MdF.mono {T T' : Nat} {w : World} {v1 v2 : Value} {L : Nat} {X : Nat -> PtD} {n : Nat} {s : Nat -> ByteArray} (h : MdF T w v1 v2 L X n s) (hT : T <= T') : MdF T' w v1 v2 L X n s := ⟨h.1.mono hT, h.2.mono hT⟩
theorem znz (pa sl : Int) (au : Option Addr) (un cu : Nat) (ac : Option Addr) (cn cc : Nat) (au' : Option Addr) (cu' : Nat) (ac' : Option Addr) (cc' : Nat) (ub : Nat -> Bool) (ui co ca : Nat -> Int) (T : Nat) (w : World) (hT : T <= w.heap.size) (h1 : SlF T w (.slice au un cu) un (2 * un) (upF ub ui)) (h2 : SlF T w (.slice ac cn cc) cn (2 * cn) (inF co ca)) (h3 : SlF T w (.slice au' un cu') un (2 * un) (upF ub ui)) (h4 : SlF T w (.slice ac' cn cc') cn (2 * cn) (inF co ca)) (hn : un <= 1048576) (hn2 : cn <= 1048576) :
 Calls Tryz.prog 143 #[.agg #[.int .i64 pa, .int .i64 sl, .slice au un cu, .slice ac cn cc], .agg #[.int .i64 pa, .int .i64 sl, .slice au' un cu', .slice ac' cn cc']] w fun e w' => e = .returned (.bool true) /\ Below w.heap.size w w' := by
 have H1 : Hid (SlF T w (.slice au un cu) un (2 * un) (upF ub ui)) := h1
 have H2 : Hid (SlF T w (.slice ac cn cc) cn (2 * cn) (inF co ca)) := h2
 have H3 : Hid (SlF T w (.slice au' un cu') un (2 * un) (upF ub ui)) := h3
 have H4 : Hid (SlF T w (.slice ac' cn cc') cn (2 * cn) (inF co ca)) := h4
 clear h1 h2 h3 h4
 go_enter Tryz.func143, Tryz.ntmps143
 have B2 : Below w.heap.size w ((w.alloc (.cells #[.int .i64 pa, .int .i64 sl, .slice au un cu, .slice ac cn cc] 176)).alloc (.cells #[.int .i64 pa, .int .i64 sl, .slice au' un cu', .slice ac' cn cc'] 176)) := ((Below.refl _ _).alloc (Nat.le_refl _) _).alloc (by simp) _
 go_wp2_with (first | (go_at_call 183; refine (zr6 _ _ _ _ _ _ _ ub ui _ (H1.out.below B2 hT) (H3.out.below B2 hT) hn).mono ?_; rintro e w1 ⟨rfl, b1⟩; have k1 := fun i => (zo b1).1 (w.heap.size + 1) i (by simp); have k0 := fun i => (zo b1).1 w.heap.size i (by simp; omega); have z1 : w.heap.size + 1 + 1 <= w1.heap.size := (by have := b1.size; simp at this; omega); have BB : Hid (Below w.heap.size w w1) := B2.trans (b1.mono (by simp; omega)); clear b1) | (go_at_call 184; refine (zpj _ _ _ _ _ _ _ co ca _ (H2.out.below BB.out hT) (H4.out.below BB.out hT) hn2).mono ?_; rintro e w2 ⟨rfl, b2⟩; have BC : Hid (Below w.heap.size w w2) := zc BB.out b2; clear b2))
 go_ret
 exact ⟨rfl, BC.out⟩
set_option maxHeartbeats 1000000 in
theorem zl2 (a1 a2 : Option Addr) (c1 c2 L : Nat) (X : Nat -> PtD) (T : Nat) (w : World) (h1 : PtF T w (.slice a1 L c1) L X) (h2 : PtF T w (.slice a2 L c2) L X) (hT : T <= w.heap.size) (hn : L <= 1048576) (hX : ∀ j, j < L -> PLe (X j) 1048576) :
 Calls Tryz.prog 108 #[.slice a1 L c1, .slice a2 L c2] w fun e w' => e = .returned (.bool true) /\ Below w.heap.size w w' := by
 have hn' : (L : Int) <= 1048576 := by omega
 have H1 : Hid (PtF T w (.slice a1 L c1) L X) := h1
 have H2 : Hid (PtF T w (.slice a2 L c2) L X) := h2
 have HX : Hid (∀ j, j < L -> PLe (X j) 1048576) := hX
 clear h1 h2 hX
 go_enter Tryz.func108, Tryz.ntmps108
 go_wp2
 go_loopw [5] (fun i wr => ∃ k : Nat, k <= L /\ i = .int .i64 k /\ Below w.heap.size w wr) (fun i _ => L - (intOf i).toNat)
 case atStart => exact ⟨0, Nat.zero_le _, rfl, Below.refl _ _⟩
 case round =>
  obtain ⟨j, hk, rfl, hF⟩ := hrel
  by_cases hlt : j < L
  · have hlt' : (j : Int) < (L : Int) := by omega
    obtain ⟨b, off, rfl, lb, lz, hc⟩ := H1.out.at_ hlt
    obtain ⟨b', off', rfl, lb', lz', hc'⟩ := H2.out.at_ hlt
    obtain ⟨ax, cx, ax', cx', c0, c1, c2, c3, sx, sx'⟩ := (hc j hlt).below hF hT lb
    obtain ⟨ay, cy, ay', cy', d0, d1, d2, d3, sy, sy'⟩ := (hc' j hlt).below hF hT lb'
    obtain ⟨x1, x2⟩ := HX.out j hlt
    clear hc hc' H1 H2 HX
    generalize X j = x at c0 c1 c2 c3 sx sx' d0 d1 d2 d3 sy sy' x1 x2
    obtain ⟨pa, sl, un, ub, ui, cn, co, ca⟩ := x
    simp only at c0 c1 c2 c3 sx sx' d0 d1 d2 d3 sy sy' x1 x2
    have hT2 : T <= wr.heap.size := Nat.le_trans hT hF.size
    have HC : Hid (∀ W, Below wr.heap.size wr W -> Calls Tryz.prog 143 #[.agg #[.int .i64 pa, .int .i64 sl, .slice ax un cx, .slice ax' cn cx'], .agg #[.int .i64 pa, .int .i64 sl, .slice ay un cy, .slice ay' cn cy']] W fun e w' => e = .returned (.bool true) /\ Below W.heap.size W w') := fun W hW => znz _ _ _ _ _ _ _ _ _ _ _ _ ub ui co ca T W (Nat.le_trans hT2 hW.size) (sx.below hW hT2) (sx'.below hW hT2) (sy.below hW hT2) (sy'.below hW hT2) x1 x2
    have HF : Hid (Below w.heap.size w wr) := hF
    clear sx sy sx' sy' hF
    go_wp2
    go_region_with (go_at_call 143; refine (HC.out _ (Below.refl _ _).drew).mono ?_; rintro e w1 ⟨rfl, b1⟩)
    all_goals
     have hB := zc HF.out.drew b1
     clear b1
     go_wp2
     go_roundw
     case rel => exact ⟨j + 1, by omega, by go_num, hB⟩
     case measure => simp [intOf]; omega
  · have hge : (L : Int) <= (j : Int) := by omega
    go_wp2
    go_ret
    exact ⟨rfl, hF⟩
theorem zl3 (a1 a2 a1' a2' : Option Addr) (c1 c2 c1' c2' L n : Nat) (X : Nat -> PtD) (s : Nat -> ByteArray) (T : Nat) (w : World) (h1 : MdF T w (.slice a1 L c1) (.slice a2 n c2) L X n s) (h2 : MdF T w (.slice a1' L c1') (.slice a2' n c2') L X n s) (hT : T <= w.heap.size) (hL : L <= 1048576) (hn : n <= 1048576) (hX : ∀ j, j < L -> PLe (X j) 1048576) :
 Calls Tryz.prog 63 #[.agg #[.slice a1 L c1, .slice a2 n c2], .agg #[.slice a1' L c1', .slice a2' n c2']] w fun e w' => e = .returned (.bool true) /\ Below w.heap.size w w' := by
 have H1 : Hid (MdF T w (.slice a1 L c1) (.slice a2 n c2) L X n s) := h1
 have H2 : Hid (MdF T w (.slice a1' L c1') (.slice a2' n c2') L X n s) := h2
 have HX : Hid (∀ j, j < L -> PLe (X j) 1048576) := hX
 clear h1 h2 hX
 go_enter Tryz.func63, Tryz.ntmps63
 have B2 : Below w.heap.size w ((w.alloc (.cells #[.slice a1 L c1, .slice a2 n c2] 47)).alloc (.cells #[.slice a1' L c1', .slice a2' n c2'] 47)) := ((Below.refl _ _).alloc (Nat.le_refl _) _).alloc (by simp) _
 go_wp2_with (first | (go_at_call 108; refine (zl2 _ _ _ _ _ X _ _ (H1.out.1.below B2 hT) (H2.out.1.below B2 hT) (by simp; omega) hL HX.out).mono ?_; rintro e w1 ⟨rfl, b1⟩; have k1 := fun i => (zo b1).1 (w.heap.size + 1) i (by simp); have k0 := fun i => (zo b1).1 w.heap.size i (by simp; omega); have z1 : w.heap.size + 1 + 1 <= w1.heap.size := (by have := b1.size; simp at this; omega); have BB : Hid (Below w.heap.size w w1) := B2.trans (b1.mono (by simp; omega)); clear b1) | (go_at_call 65; refine (zg3 _ _ _ _ _ _ _ s _ (H1.out.2.below BB.out hT) (H2.out.2.below BB.out hT) hn).mono ?_; rintro e w2 ⟨rfl, b2⟩; have BC : Hid (Below w.heap.size w w2) := zc BB.out b2; clear b2))
 go_ret
 exact ⟨rfl, BC.out⟩
end Go.Proofs.YtmckcnmlhgpnhaaGreat
