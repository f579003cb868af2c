/- - -/
import Derived.Test.YtblcfbhlmdhnpaaGreatBMdA
import Derived.Laws.MakeOwn
import Derived.Deep.CutRange
import Derived.Deep.RegionWith
import Derived.Deep.QuietTactic
import Derived.BigQuiet
namespace Go.Proofs.YtblcfbhlmdhnpaaGreat
set_option maxRecDepth 20000
open Go.RowKit
set_option linter.unusedSimpArgs false
set_option linter.unusedVariables false
def zaa (t : TypeId) (w wr : World) (K m : Nat) (f : Nat -> Value) (k : Nat) : Prop := Below w.heap.size w wr /\ ∃ g, wr.rowIs K t m g /\ ∀ j, j < k -> g j = f j
theorem zbp {t : TypeId} {w wr : World} {K m : Nat} {f : Nat -> Value} {k : Nat} (h : zaa t w wr K m f k) (hK : w.heap.size <= K) : zaa t w (wr.setCell ⟨K, k, none⟩ (f k)) K m f (k + 1) := by
 obtain ⟨h0, g, h1, h2⟩ := h
 refine ⟨h0.setCell (p := ⟨K, k, none⟩) hK _, _, h1.set k _, fun j hj => ?_⟩
 by_cases e : j = k
 · subst e
   simp
 · rw [if_neg (by omega)]
   exact h2 j (by omega)
theorem zdj {t : TypeId} {w wr : World} {K m : Nat} {f : Nat -> Value} {k : Nat} (h : zaa t w wr K m f k) (hK : w.heap.size <= K) {u v : Value} (hu : f k = u) (hv : f (k + 1) = v) : zaa t w ((wr.setCell ⟨K, k, none⟩ u).setCell ⟨K, k + 1, none⟩ v) K m f (k + 2) := by
 subst hu hv
 exact zbp (zbp h hK) hK
theorem zbq {t : TypeId} {w wr : World} {K m : Nat} {f : Nat -> Value} (h : zaa t w wr K m f m) : wr.rowIs K t m f := by
 obtain ⟨h0, g, h1, h2⟩ := h
 exact h1.congr h2
theorem zb8 {t : TypeId} {w wr w1 : World} {K m : Nat} {f : Nat -> Value} {k : Nat} (h : zaa t w wr K m f k) (hb : Below wr.heap.size wr w1) : zaa t w w1 K m f k := by
 obtain ⟨h0, g, h1, h2⟩ := h
 exact ⟨zb h0 hb, g, h1.of_block (hb.block _ h1.lt), h2⟩
theorem rowIs_made (A : Array Value) (hA : 0 < A.size) (w : World) (n : Nat) (t : TypeId) : ∃ g, (w.alloc (.cells (madeCells A n) t)).rowIs w.heap.size t n g :=
 ⟨fun i => (madeCells A n).getD i (.bool false), _, Go.Deep.blk_alloc_new _ _, size_madeCells _ _, fun i hi => by
  simp [Array.getD, size_madeCells, hi]⟩
theorem zhd : (Tryz.prog.info? 99).map (fun i => (i.zero, i.size, i.bytes)) = some (some (.agg #[.bool false, .int .i64 0]), 2, 16) := by kernel_rfl
theorem zhe (l : Int) (h0 : 0 <= l) (h1 : l <= 1048576) (w : World) : (Instr.makeSlice 55 (.int .i64 l) (.int .i64 l)).run Tryz.prog w = .ok (.slice (some ⟨w.heap.size, 0, none⟩) l.toNat l.toNat) (w.alloc (.cells (madeCells #[.bool false, .int .i64 0] (l.toNat * 2)) 99)) := by
 obtain ⟨i, hi, hzz⟩ := Option.map_eq_some_iff.1 zhd
 simp only [Prod.mk.injEq] at hzz
 obtain ⟨hz, hs, hb⟩ := hzz
 have := run_make (P := Tryz.prog) w 55 99 i _ Tryz.underlying55 hi hz .i64 .i64 l l h0 (Int.le_refl _) (by rw [hb]; omega) (by omega)
 rw [hs] at this
 exact this
theorem zgr (p0 : Bool) (q0 : Int) (w : World) :
 Calls Tryz.prog 100 #[.agg #[.bool p0, .int .i64 q0]] w fun e w' => e = .returned (.agg #[.bool p0, .int .i64 q0]) /\ Below w.heap.size w w' := by
 go_enter Tryz.func100, Tryz.ntmps100
 go_wp2
 exact bodyPost_ret (v := .agg #[.bool p0, .int .i64 q0]) (by simp [results, Tryz.results100, go_sem]) rfl ⟨rfl, (((Below.refl _ _).alloc (Nat.le_refl _) _).alloc (by simp) _).alloc (by simp; omega) _⟩
theorem zd4 (a : Option Addr) (n cap : Nat) (p : Nat -> Bool) (q : Nat -> Int) (T : Nat) (w : World) (hs : SlF T w (.slice a n cap) n (2 * n) (upF p q)) (hn : n <= 1048576) :
 Calls Tryz.prog 81 #[.slice a n cap] w fun e w' => e = .returned (.slice (some ⟨w.heap.size, 0, none⟩) n n) /\ w'.rowIs w.heap.size 99 (n * 2) (upF p q) /\ Below w.heap.size w w' := by
 have hn' : (n : Int) <= 1048576 := by omega
 have hm1 := zhe (n : Int) (by omega) (by omega)
 rw [Int.toNat_natCast] at hm1
 have HS : Hid (SlF w.heap.size w (.slice a n cap) n (2 * n) (upF p q)) := hs.here
 clear hs
 go_enter Tryz.func81, Tryz.ntmps81
 go_wp2
 go_loopw [4] (fun u4 wr => ∃ k : Nat, k <= n /\ u4 = .int .i64 k /\ zaa 99 w wr w.heap.size (n * 2) (upF p q) (k * 2)) (fun u4 _ => n - (intOf u4).toNat)
 case atStart =>
  obtain ⟨g, hg⟩ := rowIs_made #[.bool false, .int .i64 0] (by decide) w (n * 2) 99
  exact ⟨0, Nat.zero_le _, rfl, (Below.refl _ _).alloc (Nat.le_refl _) _, g, hg, fun j hj => by omega⟩
 case round =>
  obtain ⟨k, hk, rfl, hF⟩ := hrel
  by_cases hlt : k < n
  · have hlt' : (k : Int) < (n : Int) := by omega
    obtain ⟨br, offr, cap', hv, _, lbr, hcr⟩ := HS.out.parts (k := 0) (by omega)
    simp only [Value.slice.injEq] at hv
    obtain ⟨rfl, _, rfl⟩ := hv
    have hc1 : wr.cell? ⟨br, offr + k * 2, none⟩ = some (upF p q (k * 2)) := by rw [hF.1.cell (p := ⟨br, offr + k * 2, none⟩) lbr]; exact hcr (k * 2) (by omega)
    have hd1 : wr.cell? ⟨br, offr + k * 2 + 1, none⟩ = some (upF p q (k * 2 + 1)) := by rw [hF.1.cell (p := ⟨br, offr + k * 2 + 1, none⟩) lbr]; exact hcr (k * 2 + 1) (by omega)
    have e0 := zb1 p q k
    have e1 := zb2 p q k
    rw [e0] at hc1
    rw [e1] at hd1
    have E0 : Hid (upF p q (k * 2) = .bool (p k)) := e0
    have E1 : Hid (upF p q (k * 2 + 1) = .int .i64 (q k)) := e1
    have HF : Hid (zaa 99 w wr w.heap.size (n * 2) (upF p q) (k * 2)) := hF
    obtain ⟨gK, hgK, -⟩ := hF.2
    have lK : w.heap.size < wr.heap.size := hgK.lt
    clear hF hcr HS hm1 hgK e0 e1
    go_wp2_with (go_at_call 100; refine (zgr _ _ _).mono ?_; rintro e w1 ⟨rfl, b1⟩; have F1 : Hid (zaa 99 w w1 w.heap.size (n * 2) (upF p q) (k * 2)) := zb8 HF.out b1; obtain ⟨g, hg, -⟩ := F1.out.2; have g0 := hg.cell (i := k * 2) (by omega); have g1 := hg.cell (i := k * 2 + 1) (by omega); have gf := hg.frozen; clear hg b1)
    exact ⟨⟨k + 1, hlt, by go_num, by rw [Nat.succ_mul]; exact zdj F1.out (Nat.le_refl _) E0.out E1.out⟩, by simp [intOf]; omega⟩
  · have hge : (n : Int) <= (k : Int) := by omega
    have hkn : k = n := by omega
    have HF : Hid (zaa 99 w wr w.heap.size (n * 2) (upF p q) (n * 2)) := hkn ▸ hF
    clear hkn hF
    go_wp2
    go_ret
    exact ⟨rfl, zbq HF.out, HF.out.1⟩
theorem zf2 (p0 : Bool) (q0 : Int) (w : World) :
 Calls Tryz.prog 112 #[.agg #[.bool p0, .int .i64 q0], .agg #[.bool p0, .int .i64 q0]] w fun e w' => e = .returned (.bool true) /\ Below w.heap.size w w' := by
 go_enter Tryz.func112, Tryz.ntmps112
 go_wp2
 go_ret
 exact ⟨rfl, ((Below.refl _ _).alloc (Nat.le_refl _) _).alloc (by simp) _⟩
theorem zfm (T1 T2 : Nat) (a1 a2 : Option Addr) (n c1 c2 : Nat) (p : Nat -> Bool) (q : Nat -> Int) (w : World) (h1 : SlF T1 w (.slice a1 n c1) n (2 * n) (upF p q)) (h2 : SlF T2 w (.slice a2 n c2) n (2 * n) (upF p q)) (hn : n <= 1048576) :
 Calls Tryz.prog 92 #[.slice a1 n c1, .slice a2 n c2] w fun e w' => e = .returned (.bool true) /\ Below w.heap.size w w' := by
 have H1 : Hid (SlF w.heap.size w (.slice a1 n c1) n (2 * n) (upF p q)) := h1.here
 have H2 : Hid (SlF w.heap.size w (.slice a2 n c2) n (2 * n) (upF p q)) := h2.here
 have hn' : (n : Int) <= 1048576 := by omega
 clear h1 h2
 go_enter Tryz.func92, Tryz.ntmps92
 go_wp2
 go_loopw [5] (fun i wr => ∃ k : Nat, k <= n /\ i = .int .i64 k /\ Below w.heap.size w wr) (fun i _ => n - (intOf i).toNat)
 case atStart => exact ⟨0, Nat.zero_le _, rfl, Below.refl _ _⟩
 case round =>
  obtain ⟨k, hk, rfl, hF⟩ := hrel
  by_cases hlt : k < n
  · have hlt' : (k : Int) < (n : Int) := by omega
    obtain ⟨b1, o1, cap', hv, _, l1, g1⟩ := H1.out.parts (k := 0) (by omega)
    simp only [Value.slice.injEq] at hv
    obtain ⟨rfl, _, rfl⟩ := hv
    obtain ⟨b2, o2, cap', hv, _, l2, g2⟩ := H2.out.parts (k := 0) (by omega)
    simp only [Value.slice.injEq] at hv
    obtain ⟨rfl, _, rfl⟩ := hv
    have hc1 : wr.cell? ⟨b1, o1 + k * 2, none⟩ = some (.bool (p k)) := by rw [hF.cell (p := ⟨b1, o1 + k * 2, none⟩) l1, <- zb1 p q]; exact g1 (k * 2) (by omega)
    have hc2 : wr.cell? ⟨b2, o2 + k * 2, none⟩ = some (.bool (p k)) := by rw [hF.cell (p := ⟨b2, o2 + k * 2, none⟩) l2, <- zb1 p q]; exact g2 (k * 2) (by omega)
    have hd1 : wr.cell? ⟨b1, o1 + k * 2 + 1, none⟩ = some (.int .i64 (q k)) := by rw [hF.cell (p := ⟨b1, o1 + k * 2 + 1, none⟩) l1, <- zb2 p q]; exact g1 (k * 2 + 1) (by omega)
    have hd2 : wr.cell? ⟨b2, o2 + k * 2 + 1, none⟩ = some (.int .i64 (q k)) := by rw [hF.cell (p := ⟨b2, o2 + k * 2 + 1, none⟩) l2, <- zb2 p q]; exact g2 (k * 2 + 1) (by omega)
    clear g1 g2 H1 H2
    go_wp2
    go_region_with (go_at_call 112; refine (zf2 _ _ _).mono ?_; rintro e w' ⟨rfl, hb⟩)
    all_goals
     have hB := zb hF.drew hb
     go_wp2
     go_roundw
     case rel => exact ⟨k + 1, by omega, by go_num, hB⟩
     case measure => simp [intOf]; omega
  · have hge : (n : Int) <= (k : Int) := by omega
    go_wp2
    go_ret
    exact ⟨rfl, hF⟩
theorem zgs : (Tryz.prog.info? 80).map (fun i => (i.zero, i.size, i.bytes)) = some (some (.agg #[.int .i64 0, .int .i64 0]), 2, 16) := by kernel_rfl
theorem zgt (l : Int) (h0 : 0 <= l) (h1 : l <= 1048576) (w : World) : (Instr.makeSlice 56 (.int .i64 l) (.int .i64 l)).run Tryz.prog w = .ok (.slice (some ⟨w.heap.size, 0, none⟩) l.toNat l.toNat) (w.alloc (.cells (madeCells #[.int .i64 0, .int .i64 0] (l.toNat * 2)) 80)) := by
 obtain ⟨i, hi, hzz⟩ := Option.map_eq_some_iff.1 zgs
 simp only [Prod.mk.injEq] at hzz
 obtain ⟨hz, hs, hb⟩ := hzz
 have := run_make (P := Tryz.prog) w 56 80 i _ Tryz.underlying56 hi hz .i64 .i64 l l h0 (Int.le_refl _) (by rw [hb]; omega) (by omega)
 rw [hs] at this
 exact this
theorem zf3 (p0 : Int) (q0 : Int) (w : World) :
 Calls Tryz.prog 101 #[.agg #[.int .i64 p0, .int .i64 q0]] w fun e w' => e = .returned (.agg #[.int .i64 p0, .int .i64 q0]) /\ Below w.heap.size w w' := by
 go_enter Tryz.func101, Tryz.ntmps101
 go_wp2
 exact bodyPost_ret (v := .agg #[.int .i64 p0, .int .i64 q0]) (by simp [results, Tryz.results101, go_sem]) rfl ⟨rfl, (((Below.refl _ _).alloc (Nat.le_refl _) _).alloc (by simp) _).alloc (by simp; omega) _⟩
theorem zdk (a : Option Addr) (n cap : Nat) (p q : Nat -> Int) (T : Nat) (w : World) (hs : SlF T w (.slice a n cap) n (2 * n) (inF p q)) (hn : n <= 1048576) :
 Calls Tryz.prog 82 #[.slice a n cap] w fun e w' => e = .returned (.slice (some ⟨w.heap.size, 0, none⟩) n n) /\ w'.rowIs w.heap.size 80 (n * 2) (inF p q) /\ Below w.heap.size w w' := by
 have hn' : (n : Int) <= 1048576 := by omega
 have hm1 := zgt (n : Int) (by omega) (by omega)
 rw [Int.toNat_natCast] at hm1
 have HS : Hid (SlF w.heap.size w (.slice a n cap) n (2 * n) (inF p q)) := hs.here
 clear hs
 go_enter Tryz.func82, Tryz.ntmps82
 go_wp2
 go_loopw [4] (fun u4 wr => ∃ k : Nat, k <= n /\ u4 = .int .i64 k /\ zaa 80 w wr w.heap.size (n * 2) (inF p q) (k * 2)) (fun u4 _ => n - (intOf u4).toNat)
 case atStart =>
  obtain ⟨g, hg⟩ := rowIs_made #[.int .i64 0, .int .i64 0] (by decide) w (n * 2) 80
  exact ⟨0, Nat.zero_le _, rfl, (Below.refl _ _).alloc (Nat.le_refl _) _, g, hg, fun j hj => by omega⟩
 case round =>
  obtain ⟨k, hk, rfl, hF⟩ := hrel
  by_cases hlt : k < n
  · have hlt' : (k : Int) < (n : Int) := by omega
    obtain ⟨br, offr, cap', hv, _, lbr, hcr⟩ := HS.out.parts (k := 0) (by omega)
    simp only [Value.slice.injEq] at hv
    obtain ⟨rfl, _, rfl⟩ := hv
    have hc1 : wr.cell? ⟨br, offr + k * 2, none⟩ = some (inF p q (k * 2)) := by rw [hF.1.cell (p := ⟨br, offr + k * 2, none⟩) lbr]; exact hcr (k * 2) (by omega)
    have hd1 : wr.cell? ⟨br, offr + k * 2 + 1, none⟩ = some (inF p q (k * 2 + 1)) := by rw [hF.1.cell (p := ⟨br, offr + k * 2 + 1, none⟩) lbr]; exact hcr (k * 2 + 1) (by omega)
    have e0 := za5 p q k
    have e1 := zb3 p q k
    rw [e0] at hc1
    rw [e1] at hd1
    have E0 : Hid (inF p q (k * 2) = .int .i64 (p k)) := e0
    have E1 : Hid (inF p q (k * 2 + 1) = .int .i64 (q k)) := e1
    have HF : Hid (zaa 80 w wr w.heap.size (n * 2) (inF p q) (k * 2)) := hF
    obtain ⟨gK, hgK, -⟩ := hF.2
    have lK : w.heap.size < wr.heap.size := hgK.lt
    clear hF hcr HS hm1 hgK e0 e1
    go_wp2_with (go_at_call 101; refine (zf3 _ _ _).mono ?_; rintro e w1 ⟨rfl, b1⟩; have F1 : Hid (zaa 80 w w1 w.heap.size (n * 2) (inF p q) (k * 2)) := zb8 HF.out b1; obtain ⟨g, hg, -⟩ := F1.out.2; have g0 := hg.cell (i := k * 2) (by omega); have g1 := hg.cell (i := k * 2 + 1) (by omega); have gf := hg.frozen; clear hg b1)
    exact ⟨⟨k + 1, hlt, by go_num, by rw [Nat.succ_mul]; exact zdj F1.out (Nat.le_refl _) E0.out E1.out⟩, by simp [intOf]; omega⟩
  · have hge : (n : Int) <= (k : Int) := by omega
    have hkn : k = n := by omega
    have HF : Hid (zaa 80 w wr w.heap.size (n * 2) (inF p q) (n * 2)) := hkn ▸ hF
    clear hkn hF
    go_wp2
    go_ret
    exact ⟨rfl, zbq HF.out, HF.out.1⟩
theorem zfn (p0 : Int) (q0 : Int) (w : World) :
 Calls Tryz.prog 113 #[.agg #[.int .i64 p0, .int .i64 q0], .agg #[.int .i64 p0, .int .i64 q0]] w fun e w' => e = .returned (.bool true) /\ Below w.heap.size w w' := by
 go_enter Tryz.func113, Tryz.ntmps113
 go_wp2
 go_ret
 exact ⟨rfl, ((Below.refl _ _).alloc (Nat.le_refl _) _).alloc (by simp) _⟩
theorem zev (T1 T2 : Nat) (a1 a2 : Option Addr) (n c1 c2 : Nat) (p q : Nat -> Int) (w : World) (h1 : SlF T1 w (.slice a1 n c1) n (2 * n) (inF p q)) (h2 : SlF T2 w (.slice a2 n c2) n (2 * n) (inF p q)) (hn : n <= 1048576) :
 Calls Tryz.prog 93 #[.slice a1 n c1, .slice a2 n c2] w fun e w' => e = .returned (.bool true) /\ Below w.heap.size w w' := by
 have H1 : Hid (SlF w.heap.size w (.slice a1 n c1) n (2 * n) (inF p q)) := h1.here
 have H2 : Hid (SlF w.heap.size w (.slice a2 n c2) n (2 * n) (inF p q)) := h2.here
 have hn' : (n : Int) <= 1048576 := by omega
 clear h1 h2
 go_enter Tryz.func93, Tryz.ntmps93
 go_wp2
 go_loopw [5] (fun i wr => ∃ k : Nat, k <= n /\ i = .int .i64 k /\ Below w.heap.size w wr) (fun i _ => n - (intOf i).toNat)
 case atStart => exact ⟨0, Nat.zero_le _, rfl, Below.refl _ _⟩
 case round =>
  obtain ⟨k, hk, rfl, hF⟩ := hrel
  by_cases hlt : k < n
  · have hlt' : (k : Int) < (n : Int) := by omega
    obtain ⟨b1, o1, cap', hv, _, l1, g1⟩ := H1.out.parts (k := 0) (by omega)
    simp only [Value.slice.injEq] at hv
    obtain ⟨rfl, _, rfl⟩ := hv
    obtain ⟨b2, o2, cap', hv, _, l2, g2⟩ := H2.out.parts (k := 0) (by omega)
    simp only [Value.slice.injEq] at hv
    obtain ⟨rfl, _, rfl⟩ := hv
    have hc1 : wr.cell? ⟨b1, o1 + k * 2, none⟩ = some (.int .i64 (p k)) := by rw [hF.cell (p := ⟨b1, o1 + k * 2, none⟩) l1, <- za5 p q]; exact g1 (k * 2) (by omega)
    have hc2 : wr.cell? ⟨b2, o2 + k * 2, none⟩ = some (.int .i64 (p k)) := by rw [hF.cell (p := ⟨b2, o2 + k * 2, none⟩) l2, <- za5 p q]; exact g2 (k * 2) (by omega)
    have hd1 : wr.cell? ⟨b1, o1 + k * 2 + 1, none⟩ = some (.int .i64 (q k)) := by rw [hF.cell (p := ⟨b1, o1 + k * 2 + 1, none⟩) l1, <- zb3 p q]; exact g1 (k * 2 + 1) (by omega)
    have hd2 : wr.cell? ⟨b2, o2 + k * 2 + 1, none⟩ = some (.int .i64 (q k)) := by rw [hF.cell (p := ⟨b2, o2 + k * 2 + 1, none⟩) l2, <- zb3 p q]; exact g2 (k * 2 + 1) (by omega)
    clear g1 g2 H1 H2
    go_wp2
    go_region_with (go_at_call 113; refine (zfn _ _ _).mono ?_; rintro e w' ⟨rfl, hb⟩)
    all_goals
     have hB := zb hF.drew hb
     go_wp2
     go_roundw
     case rel => exact ⟨k + 1, by omega, by go_num, hB⟩
     case measure => simp [intOf]; omega
  · have hge : (n : Int) <= (k : Int) := by omega
    go_wp2
    go_ret
    exact ⟨rfl, hF⟩
theorem zgu : (Tryz.prog.info? 9).map (fun i => (i.zero, i.size, i.bytes)) = some (some (.string ⟨#[]⟩), 1, 16) := by kernel_rfl
theorem zgv (l : Int) (h0 : 0 <= l) (h1 : l <= 1048576) (w : World) : (Instr.makeSlice 23 (.int .i64 l) (.int .i64 l)).run Tryz.prog w = .ok (.slice (some ⟨w.heap.size, 0, none⟩) l.toNat l.toNat) (w.alloc (.cells (madeCells #[.string ⟨#[]⟩] (l.toNat)) 9)) := by
 obtain ⟨i, hi, hzz⟩ := Option.map_eq_some_iff.1 zgu
 simp only [Prod.mk.injEq] at hzz
 obtain ⟨hz, hs, hb⟩ := hzz
 have := run_make (P := Tryz.prog) w 23 9 i _ Tryz.underlying23 hi hz .i64 .i64 l l h0 (Int.le_refl _) (by rw [hb]; omega) (by omega)
 rw [hs, Nat.mul_one] at this
 exact this
theorem zbr (a : Option Addr) (n cap : Nat) (s : Nat -> ByteArray) (T : Nat) (w : World) (hs : TxF T w (.slice a n cap) n s) (hn : n <= 1048576) :
 Calls Tryz.prog 23 #[.slice a n cap] w fun e w' => e = .returned (.slice (some ⟨w.heap.size, 0, none⟩) n n) /\ w'.rowIs w.heap.size 9 n (fun i => .string (s i)) /\ Below w.heap.size w w' := by
 have hn' : (n : Int) <= 1048576 := by omega
 have hm1 := zgv (n : Int) (by omega) (by omega)
 rw [Int.toNat_natCast] at hm1
 have HS : Hid (SlF w.heap.size w (.slice a n cap) n n (fun i => .string (s i))) := SlF.here hs
 clear hs
 go_enter Tryz.func23, Tryz.ntmps23
 go_wp2
 go_loopw [4] (fun u4 wr => ∃ k : Nat, k <= n /\ u4 = .int .i64 k /\ zaa 9 w wr w.heap.size n (fun i => .string (s i)) k) (fun u4 _ => n - (intOf u4).toNat)
 case atStart =>
  obtain ⟨g, hg⟩ := rowIs_made #[.string ⟨#[]⟩] (by decide) w n 9
  exact ⟨0, Nat.zero_le _, rfl, (Below.refl _ _).alloc (Nat.le_refl _) _, g, hg, fun j hj => by omega⟩
 case round =>
  obtain ⟨k, hk, rfl, hF⟩ := hrel
  by_cases hlt : k < n
  · have hlt' : (k : Int) < (n : Int) := by omega
    obtain ⟨br, offr, cap', hv, _, lbr, hcr⟩ := HS.out.parts (k := 0) (by omega)
    simp only [Value.slice.injEq] at hv
    obtain ⟨rfl, _, rfl⟩ := hv
    have hc1 : wr.cell? ⟨br, offr + k, none⟩ = some (.string (s k)) := by rw [hF.1.cell (p := ⟨br, offr + k, none⟩) lbr]; exact hcr k hlt
    have HF : Hid (zaa 9 w wr w.heap.size n (fun i => .string (s i)) k) := hF
    obtain ⟨gK, hgK, -⟩ := hF.2
    have lK : w.heap.size < wr.heap.size := hgK.lt
    have g0 := hgK.cell (i := k) hlt
    have gf := hgK.frozen
    clear hF hcr HS hm1 hgK
    go_wp2
    exact ⟨⟨k + 1, hlt, by go_num, zbp (f := fun i => .string (s i)) HF.out (Nat.le_refl _)⟩, by simp [intOf]; omega⟩
  · have hge : (n : Int) <= (k : Int) := by omega
    have hkn : k = n := by omega
    have HF : Hid (zaa 9 w wr w.heap.size n (fun i => .string (s i)) n) := hkn ▸ hF
    clear hkn hF
    go_wp2
    go_ret
    exact ⟨rfl, zbq HF.out, HF.out.1⟩
theorem zbb (T1 T2 : Nat) (a1 a2 : Option Addr) (n c1 c2 : Nat) (s : Nat -> ByteArray) (w : World) (h1 : TxF T1 w (.slice a1 n c1) n s) (h2 : TxF T2 w (.slice a2 n c2) n s) (hn : n <= 1048576) :
 Calls Tryz.prog 30 #[.slice a1 n c1, .slice a2 n c2] w fun e w' => e = .returned (.bool true) /\ Below w.heap.size w w' := by
 have H1 : Hid (SlF w.heap.size w (.slice a1 n c1) n n (fun i => .string (s i))) := SlF.here h1
 have H2 : Hid (SlF w.heap.size w (.slice a2 n c2) n n (fun i => .string (s i))) := SlF.here h2
 have hn' : (n : Int) <= 1048576 := by omega
 clear h1 h2
 go_enter Tryz.func30, Tryz.ntmps30
 go_wp2
 go_loopw [5] (fun i wr => ∃ k : Nat, k <= n /\ i = .int .i64 k /\ Below w.heap.size w wr) (fun i _ => n - (intOf i).toNat)
 case atStart => exact ⟨0, Nat.zero_le _, rfl, Below.refl _ _⟩
 case round =>
  obtain ⟨k, hk, rfl, hF⟩ := hrel
  by_cases hlt : k < n
  · have hlt' : (k : Int) < (n : Int) := by omega
    obtain ⟨b1, o1, cap', hv, _, l1, g1⟩ := H1.out.parts (k := 0) (by omega)
    simp only [Value.slice.injEq] at hv
    obtain ⟨rfl, _, rfl⟩ := hv
    obtain ⟨b2, o2, cap', hv, _, l2, g2⟩ := H2.out.parts (k := 0) (by omega)
    simp only [Value.slice.injEq] at hv
    obtain ⟨rfl, _, rfl⟩ := hv
    have hc1 : wr.cell? ⟨b1, o1 + k, none⟩ = some (.string (s k)) := by rw [hF.cell (p := ⟨b1, o1 + k, none⟩) l1]; exact g1 k hlt
    have hc2 : wr.cell? ⟨b2, o2 + k, none⟩ = some (.string (s k)) := by rw [hF.cell (p := ⟨b2, o2 + k, none⟩) l2]; exact g2 k hlt
    clear g1 g2 H1 H2
    generalize s k = x at hc1 hc2
    go_wp2
    go_quiet (fail)
    go_wp2
    go_roundw
    case rel => exact ⟨k + 1, by omega, by go_num, below_drewN hF _⟩
    case measure => simp [intOf]; omega
  · have hge : (n : Int) <= (k : Int) := by omega
    go_wp2
    go_ret
    exact ⟨rfl, hF⟩
end Go.Proofs.YtblcfbhlmdhnpaaGreat
