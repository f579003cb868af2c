/- The laws' copies of rows of pairs, of texts, of Protos and of modules: what was handed in, in memory of its own; and what the laws find alike. -/
import Derived.Test.YtpjliclgjplebaaProg
import Derived.Test.YtpjliclgjplebaaKMdA
import Derived.Laws.MakeOwn
import Derived.Deep.CutRange
import Derived.Deep.RegionWith
import Derived.Deep.QuietTactic
import Derived.BigQuiet
namespace Go.Proofs.Ytpjliclgjplebaa
set_option maxRecDepth 20000
open Go.RowKit
set_option linter.unusedSimpArgs false
set_option linter.unusedVariables false

/-- The first k cells of the row K are those of f. -/
def FillT (t : TypeId) (w wr : World) (K m : Nat) (f : Nat → Value) (k : Nat) : Prop := Below w.heap.size w wr ∧ ∃ g, wr.rowIs K t m g ∧ ∀ j, j < k → g j = f j
theorem fillV_one {t : TypeId} {w wr : World} {K m : Nat} {f : Nat → Value} {k : Nat} (h : FillT t w wr K m f k) (hK : w.heap.size ≤ K) : FillT t w (wr.setCell ⟨K, k, none⟩ (f k)) K m f (k + 1) := by
  obtain ⟨h0, g, h1, h2⟩ := h
  refine ⟨h0.setCell (p := ⟨K, k, none⟩) hK _, _, h1.set k _, fun j hj => ?_⟩
  by_cases e : j = k
  · subst e
    simp
  · rw [if_neg (by omega)]
    exact h2 j (by omega)
theorem fillV_two {t : TypeId} {w wr : World} {K m : Nat} {f : Nat → Value} {k : Nat} (h : FillT t w wr K m f k) (hK : w.heap.size ≤ K) {u v : Value} (hu : f k = u) (hv : f (k + 1) = v) : FillT t w ((wr.setCell ⟨K, k, none⟩ u).setCell ⟨K, k + 1, none⟩ v) K m f (k + 2) := by
  subst hu hv
  exact fillV_one (fillV_one h hK) hK
theorem fillV_end {t : TypeId} {w wr : World} {K m : Nat} {f : Nat → Value} (h : FillT t w wr K m f m) : wr.rowIs K t m f := by
  obtain ⟨h0, g, h1, h2⟩ := h
  exact h1.congr h2
theorem fillV_below {t : TypeId} {w wr w1 : World} {K m : Nat} {f : Nat → Value} {k : Nat} (h : FillT t w wr K m f k) (hb : Below wr.heap.size wr w1) : FillT t w w1 K m f k := by
  obtain ⟨h0, g, h1, h2⟩ := h
  exact ⟨below_next h0 hb, g, h1.of_block (hb.block _ h1.lt), h2⟩
theorem rowIs_made (A : Array Value) (hA : 0 < A.size) (w : World) (n : Nat) (t : TypeId) : ∃ g, (w.alloc (.cells (madeCells A n) t)).rowIs w.heap.size t n g :=
  ⟨fun i => (madeCells A n).getD i (.bool false), _, Go.Deep.blk_alloc_new _ _, size_madeCells _ _, fun i hi => by
    simp [Array.getD, size_madeCells, hi]⟩
theorem infoUpS : (Try.prog.info? 59).map (fun i => (i.zero, i.size, i.bytes)) = some (some (.agg #[.bool false, .int .i64 0]), 2, 16) := by kernel_rfl
theorem makeUpS (l : Int) (h0 : 0 ≤ l) (h1 : l ≤ 1048576) (w : World) : (Instr.makeSlice 29 (.int .i64 l) (.int .i64 l)).run Try.prog w = .ok (.slice (some ⟨w.heap.size, 0, none⟩) l.toNat l.toNat) (w.alloc (.cells (madeCells #[.bool false, .int .i64 0] (l.toNat * 2)) 59)) := by
  obtain ⟨i, hi, hzz⟩ := Option.map_eq_some_iff.1 infoUpS
  simp only [Prod.mk.injEq] at hzz
  obtain ⟨hz, hs, hb⟩ := hzz
  have := run_make (P := Try.prog) w 29 59 i _ Try.underlying29 hi hz .i64 .i64 l l h0 (Int.le_refl _) (by rw [hb]; omega) (by omega)
  rw [hs] at this
  exact this
theorem toUp_any (p0 : Bool) (q0 : Int) (w : World) :
    Calls Try.prog 34 #[.agg #[.bool p0, .int .i64 q0]] w fun e w' => e = .returned (.agg #[.bool p0, .int .i64 q0]) ∧ Below w.heap.size w w' := by
  go_enter Try.func34, Try.ntmps34
  go_wp2
  exact bodyPost_ret (v := .agg #[.bool p0, .int .i64 q0]) (by simp [results, Try.results34, go_sem]) rfl ⟨rfl, (((Below.refl _ _).alloc (Nat.le_refl _) _).alloc (by simp) _).alloc (by simp; omega) _⟩
theorem toUpS_at (a : Option Addr) (n cap : Nat) (p : Nat → Bool) (q : Nat → Int) (T : Nat) (w : World) (hs : SlF T w (.slice a n cap) n (2 * n) (upF p q)) (hn : n ≤ 1048576) :
    Calls Try.prog 18 #[.slice a n cap] w fun e w' => e = .returned (.slice (some ⟨w.heap.size, 0, none⟩) n n) ∧ w'.rowIs w.heap.size 59 (n * 2) (upF p q) ∧ Below w.heap.size w w' := by
  have hn' : (n : Int) ≤ 1048576 := by omega
  have hm1 := makeUpS (n : Int) (by omega) (by omega)
  rw [Int.toNat_natCast] at hm1
  have HS : Hid (SlF w.heap.size w (.slice a n cap) n (2 * n) (upF p q)) := hs.here
  clear hs
  go_enter Try.func18, Try.ntmps18
  go_wp2
  go_loopw [4] (fun u4 wr => ∃ k : Nat, k ≤ n ∧ u4 = .int .i64 k ∧ FillT 59 w wr w.heap.size (n * 2) (upF p q) (k * 2)) (fun u4 _ => n - (intOf u4).toNat)
  case atStart =>
    obtain ⟨g, hg⟩ := rowIs_made #[.bool false, .int .i64 0] (by decide) w (n * 2) 59
    exact ⟨0, Nat.zero_le _, rfl, (Below.refl _ _).alloc (Nat.le_refl _) _, g, hg, fun j hj => by omega⟩
  case round =>
    obtain ⟨k, hk, rfl, hF⟩ := hrel
    by_cases hlt : k < n
    · have hlt' : (k : Int) < (n : Int) := by omega
      obtain ⟨br, offr, cap', hv, _, lbr, hcr⟩ := HS.out.parts (k := 0) (by omega)
      simp only [Value.slice.injEq] at hv
      obtain ⟨rfl, _, rfl⟩ := hv
      have hc1 : wr.cell? ⟨br, offr + k * 2, none⟩ = some (upF p q (k * 2)) := by rw [hF.1.cell (p := ⟨br, offr + k * 2, none⟩) lbr]; exact hcr (k * 2) (by omega)
      have hd1 : wr.cell? ⟨br, offr + k * 2 + 1, none⟩ = some (upF p q (k * 2 + 1)) := by rw [hF.1.cell (p := ⟨br, offr + k * 2 + 1, none⟩) lbr]; exact hcr (k * 2 + 1) (by omega)
      have e0 := upF_a p q k
      have e1 := upF_b p q k
      rw [e0] at hc1
      rw [e1] at hd1
      have E0 : Hid (upF p q (k * 2) = .bool (p k)) := e0
      have E1 : Hid (upF p q (k * 2 + 1) = .int .i64 (q k)) := e1
      have HF : Hid (FillT 59 w wr w.heap.size (n * 2) (upF p q) (k * 2)) := hF
      obtain ⟨gK, hgK, -⟩ := hF.2
      have lK : w.heap.size < wr.heap.size := hgK.lt
      clear hF hcr HS hm1 hgK e0 e1
      go_wp2_with (go_at_call 34; refine (toUp_any _ _ _).mono ?_; rintro e w1 ⟨rfl, b1⟩; have F1 : Hid (FillT 59 w w1 w.heap.size (n * 2) (upF p q) (k * 2)) := fillV_below HF.out b1; obtain ⟨g, hg, -⟩ := F1.out.2; have g0 := hg.cell (i := k * 2) (by omega); have g1 := hg.cell (i := k * 2 + 1) (by omega); have gf := hg.frozen; clear hg b1)
      exact ⟨⟨k + 1, hlt, by go_num, by rw [Nat.succ_mul]; exact fillV_two F1.out (Nat.le_refl _) E0.out E1.out⟩, by simp [intOf]; omega⟩
    · have hge : (n : Int) ≤ (k : Int) := by omega
      have hkn : k = n := by omega
      have HF : Hid (FillT 59 w wr w.heap.size (n * 2) (upF p q) (n * 2)) := hkn ▸ hF
      clear hkn hF
      go_wp2
      go_ret
      exact ⟨rfl, fillV_end HF.out, HF.out.1⟩
theorem eqUp_twin (p0 : Bool) (q0 : Int) (w : World) :
    Calls Try.prog 38 #[.agg #[.bool p0, .int .i64 q0], .agg #[.bool p0, .int .i64 q0]] w fun e w' => e = .returned (.bool true) ∧ Below w.heap.size w w' := by
  go_enter Try.func38, Try.ntmps38
  go_wp2
  go_ret
  exact ⟨rfl, ((Below.refl _ _).alloc (Nat.le_refl _) _).alloc (by simp) _⟩
theorem eqUpS_same (T1 T2 : Nat) (a1 a2 : Option Addr) (n c1 c2 : Nat) (p : Nat → Bool) (q : Nat → Int) (w : World) (h1 : SlF T1 w (.slice a1 n c1) n (2 * n) (upF p q)) (h2 : SlF T2 w (.slice a2 n c2) n (2 * n) (upF p q)) (hn : n ≤ 1048576) :
    Calls Try.prog 23 #[.slice a1 n c1, .slice a2 n c2] w fun e w' => e = .returned (.bool true) ∧ Below w.heap.size w w' := by
  have H1 : Hid (SlF w.heap.size w (.slice a1 n c1) n (2 * n) (upF p q)) := h1.here
  have H2 : Hid (SlF w.heap.size w (.slice a2 n c2) n (2 * n) (upF p q)) := h2.here
  have hn' : (n : Int) ≤ 1048576 := by omega
  clear h1 h2
  go_enter Try.func23, Try.ntmps23
  go_wp2
  go_loopw [5] (fun i wr => ∃ k : Nat, k ≤ n ∧ i = .int .i64 k ∧ Below w.heap.size w wr) (fun i _ => n - (intOf i).toNat)
  case atStart => exact ⟨0, Nat.zero_le _, rfl, Below.refl _ _⟩
  case round =>
    obtain ⟨k, hk, rfl, hF⟩ := hrel
    by_cases hlt : k < n
    · have hlt' : (k : Int) < (n : Int) := by omega
      obtain ⟨b1, o1, cap', hv, _, l1, g1⟩ := H1.out.parts (k := 0) (by omega)
      simp only [Value.slice.injEq] at hv
      obtain ⟨rfl, _, rfl⟩ := hv
      obtain ⟨b2, o2, cap', hv, _, l2, g2⟩ := H2.out.parts (k := 0) (by omega)
      simp only [Value.slice.injEq] at hv
      obtain ⟨rfl, _, rfl⟩ := hv
      have hc1 : wr.cell? ⟨b1, o1 + k * 2, none⟩ = some (.bool (p k)) := by rw [hF.cell (p := ⟨b1, o1 + k * 2, none⟩) l1, ← upF_a p q]; exact g1 (k * 2) (by omega)
      have hc2 : wr.cell? ⟨b2, o2 + k * 2, none⟩ = some (.bool (p k)) := by rw [hF.cell (p := ⟨b2, o2 + k * 2, none⟩) l2, ← upF_a p q]; exact g2 (k * 2) (by omega)
      have hd1 : wr.cell? ⟨b1, o1 + k * 2 + 1, none⟩ = some (.int .i64 (q k)) := by rw [hF.cell (p := ⟨b1, o1 + k * 2 + 1, none⟩) l1, ← upF_b p q]; exact g1 (k * 2 + 1) (by omega)
      have hd2 : wr.cell? ⟨b2, o2 + k * 2 + 1, none⟩ = some (.int .i64 (q k)) := by rw [hF.cell (p := ⟨b2, o2 + k * 2 + 1, none⟩) l2, ← upF_b p q]; exact g2 (k * 2 + 1) (by omega)
      clear g1 g2 H1 H2
      go_wp2
      go_region_with (go_at_call 38; refine (eqUp_twin _ _ _).mono ?_; rintro e w' ⟨rfl, hb⟩)
      all_goals
        have hB := below_next hF.drew hb
        go_wp2
        go_roundw
        case rel => exact ⟨k + 1, by omega, by go_num, hB⟩
        case measure => simp [intOf]; omega
    · have hge : (n : Int) ≤ (k : Int) := by omega
      go_wp2
      go_ret
      exact ⟨rfl, hF⟩
theorem infoInsS : (Try.prog.info? 42).map (fun i => (i.zero, i.size, i.bytes)) = some (some (.agg #[.int .i64 0, .int .i64 0]), 2, 16) := by kernel_rfl
theorem makeInsS (l : Int) (h0 : 0 ≤ l) (h1 : l ≤ 1048576) (w : World) : (Instr.makeSlice 30 (.int .i64 l) (.int .i64 l)).run Try.prog w = .ok (.slice (some ⟨w.heap.size, 0, none⟩) l.toNat l.toNat) (w.alloc (.cells (madeCells #[.int .i64 0, .int .i64 0] (l.toNat * 2)) 42)) := by
  obtain ⟨i, hi, hzz⟩ := Option.map_eq_some_iff.1 infoInsS
  simp only [Prod.mk.injEq] at hzz
  obtain ⟨hz, hs, hb⟩ := hzz
  have := run_make (P := Try.prog) w 30 42 i _ Try.underlying30 hi hz .i64 .i64 l l h0 (Int.le_refl _) (by rw [hb]; omega) (by omega)
  rw [hs] at this
  exact this
theorem toIns_any (p0 : Int) (q0 : Int) (w : World) :
    Calls Try.prog 35 #[.agg #[.int .i64 p0, .int .i64 q0]] w fun e w' => e = .returned (.agg #[.int .i64 p0, .int .i64 q0]) ∧ Below w.heap.size w w' := by
  go_enter Try.func35, Try.ntmps35
  go_wp2
  exact bodyPost_ret (v := .agg #[.int .i64 p0, .int .i64 q0]) (by simp [results, Try.results35, go_sem]) rfl ⟨rfl, (((Below.refl _ _).alloc (Nat.le_refl _) _).alloc (by simp) _).alloc (by simp; omega) _⟩
theorem toInsS_at (a : Option Addr) (n cap : Nat) (p q : Nat → Int) (T : Nat) (w : World) (hs : SlF T w (.slice a n cap) n (2 * n) (inF p q)) (hn : n ≤ 1048576) :
    Calls Try.prog 19 #[.slice a n cap] w fun e w' => e = .returned (.slice (some ⟨w.heap.size, 0, none⟩) n n) ∧ w'.rowIs w.heap.size 42 (n * 2) (inF p q) ∧ Below w.heap.size w w' := by
  have hn' : (n : Int) ≤ 1048576 := by omega
  have hm1 := makeInsS (n : Int) (by omega) (by omega)
  rw [Int.toNat_natCast] at hm1
  have HS : Hid (SlF w.heap.size w (.slice a n cap) n (2 * n) (inF p q)) := hs.here
  clear hs
  go_enter Try.func19, Try.ntmps19
  go_wp2
  go_loopw [4] (fun u4 wr => ∃ k : Nat, k ≤ n ∧ u4 = .int .i64 k ∧ FillT 42 w wr w.heap.size (n * 2) (inF p q) (k * 2)) (fun u4 _ => n - (intOf u4).toNat)
  case atStart =>
    obtain ⟨g, hg⟩ := rowIs_made #[.int .i64 0, .int .i64 0] (by decide) w (n * 2) 42
    exact ⟨0, Nat.zero_le _, rfl, (Below.refl _ _).alloc (Nat.le_refl _) _, g, hg, fun j hj => by omega⟩
  case round =>
    obtain ⟨k, hk, rfl, hF⟩ := hrel
    by_cases hlt : k < n
    · have hlt' : (k : Int) < (n : Int) := by omega
      obtain ⟨br, offr, cap', hv, _, lbr, hcr⟩ := HS.out.parts (k := 0) (by omega)
      simp only [Value.slice.injEq] at hv
      obtain ⟨rfl, _, rfl⟩ := hv
      have hc1 : wr.cell? ⟨br, offr + k * 2, none⟩ = some (inF p q (k * 2)) := by rw [hF.1.cell (p := ⟨br, offr + k * 2, none⟩) lbr]; exact hcr (k * 2) (by omega)
      have hd1 : wr.cell? ⟨br, offr + k * 2 + 1, none⟩ = some (inF p q (k * 2 + 1)) := by rw [hF.1.cell (p := ⟨br, offr + k * 2 + 1, none⟩) lbr]; exact hcr (k * 2 + 1) (by omega)
      have e0 := inF_a p q k
      have e1 := inF_b p q k
      rw [e0] at hc1
      rw [e1] at hd1
      have E0 : Hid (inF p q (k * 2) = .int .i64 (p k)) := e0
      have E1 : Hid (inF p q (k * 2 + 1) = .int .i64 (q k)) := e1
      have HF : Hid (FillT 42 w wr w.heap.size (n * 2) (inF p q) (k * 2)) := hF
      obtain ⟨gK, hgK, -⟩ := hF.2
      have lK : w.heap.size < wr.heap.size := hgK.lt
      clear hF hcr HS hm1 hgK e0 e1
      go_wp2_with (go_at_call 35; refine (toIns_any _ _ _).mono ?_; rintro e w1 ⟨rfl, b1⟩; have F1 : Hid (FillT 42 w w1 w.heap.size (n * 2) (inF p q) (k * 2)) := fillV_below HF.out b1; obtain ⟨g, hg, -⟩ := F1.out.2; have g0 := hg.cell (i := k * 2) (by omega); have g1 := hg.cell (i := k * 2 + 1) (by omega); have gf := hg.frozen; clear hg b1)
      exact ⟨⟨k + 1, hlt, by go_num, by rw [Nat.succ_mul]; exact fillV_two F1.out (Nat.le_refl _) E0.out E1.out⟩, by simp [intOf]; omega⟩
    · have hge : (n : Int) ≤ (k : Int) := by omega
      have hkn : k = n := by omega
      have HF : Hid (FillT 42 w wr w.heap.size (n * 2) (inF p q) (n * 2)) := hkn ▸ hF
      clear hkn hF
      go_wp2
      go_ret
      exact ⟨rfl, fillV_end HF.out, HF.out.1⟩
theorem eqIns_twin (p0 : Int) (q0 : Int) (w : World) :
    Calls Try.prog 39 #[.agg #[.int .i64 p0, .int .i64 q0], .agg #[.int .i64 p0, .int .i64 q0]] w fun e w' => e = .returned (.bool true) ∧ Below w.heap.size w w' := by
  go_enter Try.func39, Try.ntmps39
  go_wp2
  go_ret
  exact ⟨rfl, ((Below.refl _ _).alloc (Nat.le_refl _) _).alloc (by simp) _⟩
theorem eqInsS_same (T1 T2 : Nat) (a1 a2 : Option Addr) (n c1 c2 : Nat) (p q : Nat → Int) (w : World) (h1 : SlF T1 w (.slice a1 n c1) n (2 * n) (inF p q)) (h2 : SlF T2 w (.slice a2 n c2) n (2 * n) (inF p q)) (hn : n ≤ 1048576) :
    Calls Try.prog 24 #[.slice a1 n c1, .slice a2 n c2] w fun e w' => e = .returned (.bool true) ∧ Below w.heap.size w w' := by
  have H1 : Hid (SlF w.heap.size w (.slice a1 n c1) n (2 * n) (inF p q)) := h1.here
  have H2 : Hid (SlF w.heap.size w (.slice a2 n c2) n (2 * n) (inF p q)) := h2.here
  have hn' : (n : Int) ≤ 1048576 := by omega
  clear h1 h2
  go_enter Try.func24, Try.ntmps24
  go_wp2
  go_loopw [5] (fun i wr => ∃ k : Nat, k ≤ n ∧ i = .int .i64 k ∧ Below w.heap.size w wr) (fun i _ => n - (intOf i).toNat)
  case atStart => exact ⟨0, Nat.zero_le _, rfl, Below.refl _ _⟩
  case round =>
    obtain ⟨k, hk, rfl, hF⟩ := hrel
    by_cases hlt : k < n
    · have hlt' : (k : Int) < (n : Int) := by omega
      obtain ⟨b1, o1, cap', hv, _, l1, g1⟩ := H1.out.parts (k := 0) (by omega)
      simp only [Value.slice.injEq] at hv
      obtain ⟨rfl, _, rfl⟩ := hv
      obtain ⟨b2, o2, cap', hv, _, l2, g2⟩ := H2.out.parts (k := 0) (by omega)
      simp only [Value.slice.injEq] at hv
      obtain ⟨rfl, _, rfl⟩ := hv
      have hc1 : wr.cell? ⟨b1, o1 + k * 2, none⟩ = some (.int .i64 (p k)) := by rw [hF.cell (p := ⟨b1, o1 + k * 2, none⟩) l1, ← inF_a p q]; exact g1 (k * 2) (by omega)
      have hc2 : wr.cell? ⟨b2, o2 + k * 2, none⟩ = some (.int .i64 (p k)) := by rw [hF.cell (p := ⟨b2, o2 + k * 2, none⟩) l2, ← inF_a p q]; exact g2 (k * 2) (by omega)
      have hd1 : wr.cell? ⟨b1, o1 + k * 2 + 1, none⟩ = some (.int .i64 (q k)) := by rw [hF.cell (p := ⟨b1, o1 + k * 2 + 1, none⟩) l1, ← inF_b p q]; exact g1 (k * 2 + 1) (by omega)
      have hd2 : wr.cell? ⟨b2, o2 + k * 2 + 1, none⟩ = some (.int .i64 (q k)) := by rw [hF.cell (p := ⟨b2, o2 + k * 2 + 1, none⟩) l2, ← inF_b p q]; exact g2 (k * 2 + 1) (by omega)
      clear g1 g2 H1 H2
      go_wp2
      go_region_with (go_at_call 39; refine (eqIns_twin _ _ _).mono ?_; rintro e w' ⟨rfl, hb⟩)
      all_goals
        have hB := below_next hF.drew hb
        go_wp2
        go_roundw
        case rel => exact ⟨k + 1, by omega, by go_num, hB⟩
        case measure => simp [intOf]; omega
    · have hge : (n : Int) ≤ (k : Int) := by omega
      go_wp2
      go_ret
      exact ⟨rfl, hF⟩
end Go.Proofs.Ytpjliclgjplebaa
