/- - -/
import Derived.Test.YtmckcnmlhgpnhaaGreatWAllA
import Derived.Test.YtmckcnmlhgpnhaaGreatWNewA
import Derived.Deep.SlicePairs
import Derived.Lib.SmallJoins
import Derived.ChangeArms
import Derived.WideShapes
namespace Go.Proofs.YtmckcnmlhgpnhaaGreat
set_option maxRecDepth 20000
open Go.RowKit
set_option linter.unusedSimpArgs false
set_option linter.unusedVariables false
theorem zgk (a : Option Addr) (n c : Nat) (left : Int) (w : World) (h0 : 0 <= left) (h1 : left <= 1048576) (hn : n <= 9223372036854775807) :
 Calls Tryz.prog 39 #[.slice a n c, .int .i64 left] w fun e w' => e = .returned (.int .i64 (if (n : Int) <= left then left - n else -1)) /\ w' = w := by
 have hn' : (n : Int) <= 9223372036854775807 := by omega
 by_cases h : (n : Int) <= left
 · rw [if_pos h]
   have h2 : 0 <= left - (n : Int) := by omega
   go_enter Tryz.func39, Tryz.ntmps39
   go_wp2
   go_ret
   exact ⟨rfl, rfl⟩
 · rw [if_neg h]
   have h2 : left - (n : Int) < 0 := by omega
   go_enter Tryz.func39, Tryz.ntmps39
   go_wp2
   go_ret
   exact ⟨rfl, rfl⟩
theorem zjm (a : Option Addr) (n c : Nat) (left : Int) (w : World) (h0 : 0 <= left) (h1 : left <= 1048576) (hn : n <= 9223372036854775807) :
 Calls Tryz.prog 40 #[.slice a n c, .int .i64 left] w fun e w' => e = .returned (.int .i64 (if (n : Int) <= left then left - n else -1)) /\ w' = w := by
 have hn' : (n : Int) <= 9223372036854775807 := by omega
 by_cases h : (n : Int) <= left
 · rw [if_pos h]
   have h2 : 0 <= left - (n : Int) := by omega
   go_enter Tryz.func40, Tryz.ntmps40
   go_wp2
   go_ret
   exact ⟨rfl, rfl⟩
 · rw [if_neg h]
   have h2 : left - (n : Int) < 0 := by omega
   go_enter Tryz.func40, Tryz.ntmps40
   go_wp2
   go_ret
   exact ⟨rfl, rfl⟩
theorem zqd (a : Option Addr) (cap : Nat) (zs : List Int) (w : World) (hs : Sl w (.slice a zs.length cap) zs) (hn : zs.length <= 1048576) :
 Calls Tryz.prog 47 #[.slice a zs.length cap] w fun e w' => e = .returned (.slice (some ⟨w.heap.size, 0, none⟩) zs.length zs.length) /\ Own w.heap.size w' (.slice (some ⟨w.heap.size, 0, none⟩) zs.length zs.length) zs /\ Below w.heap.size w w' := by
 obtain ⟨a', cap', he, hs⟩ := hs
 simp only [Value.slice.injEq] at he
 obtain ⟨rfl, _, rfl⟩ := he
 have hmk := fun (n : Nat) (hb : 8 * n <= 281474976710656) (h63 : n <= 9223372036854775807) (w : World) => run_make_row' (P := Tryz.prog) 22 100 (.int .u64 0) 8 Tryz.underlying22 zxm rfl .i64 .i64 n hb h63 w
 have hm1 := hmk zs.length (by omega) (by omega)
 clear hmk
 have hn' : (zs.length : Int) <= 1048576 := by omega
 go_enter Tryz.func47, Tryz.ntmps47
 go_wp2
 go_loopw [4] (fun i wr => ∃ k : Nat, k <= zs.length /\ i = .int .i64 k /\ zml w wr zs.length zs k) (fun i _ => zs.length - (intOf i).toNat)
 case atStart => exact ⟨0, Nat.zero_le _, rfl, zqr w _ _⟩
 case round =>
  obtain ⟨k, hk, rfl, hF⟩ := hrel
  by_cases hlt : k < zs.length
  · have hc1 := hF.2.cell hlt
    have hf1 := hF.2.frozen k
    rcases hs with rfl | ⟨b, off, rfl, hbl, hcell⟩
    · simp at hlt
    · have hc2 : wr.cell? ⟨b, off + k, none⟩ = some (.int .u64 (zs.getD k 0)) := by rw [hF.1.cell (p := ⟨b, off + k, none⟩) hbl]; exact hcell k hlt
      have hst := zs3 hF
      have hg : zs[k]?.getD 0 = zs[k] := by simp [hlt]
      go_wp2
      go_roundw
      case rel => exact ⟨k + 1, by omega, by go_num, by simpa [hlt] using hst⟩
      case measure => simp [intOf]; omega
  · go_wp2
    go_ret
    exact ⟨rfl, zux hF hlt, hF.1⟩
def zjn (w wr : World) (K n : Nat) (y : Nat -> Int) (k : Nat) : Prop :=
 Below w.heap.size w wr /\ wr.rowIs K 48 (n * 2) (fun j => .int .i64 (if j < 2 * k then y j else 0))
theorem zqe {w wr : World} {K n : Nat} {y : Nat -> Int} {k : Nat} (h : zjn w wr K n y k) (hK : w.heap.size <= K) : zjn w ((wr.setCell ⟨K, k * 2, none⟩ (.int .i64 (y (2 * k)))).setCell ⟨K, k * 2 + 1, none⟩ (.int .i64 (y (2 * k + 1)))) K n y (k + 1) := by
 refine ⟨(h.1.setCell (p := ⟨K, k * 2, none⟩) hK _).setCell (p := ⟨K, k * 2 + 1, none⟩) hK _, ((h.2.set (k * 2) _).set (k * 2 + 1) _).congr fun j _ => ?_⟩
 by_cases e1 : j = k * 2 + 1
 · subst e1
   have : k * 2 + 1 < 2 * (k + 1) := by omega
   simp [this]
   congr 1
   omega
 · by_cases e2 : j = k * 2
   · subst e2
     have h1 : k * 2 < 2 * (k + 1) := by omega
     simp [h1]
     congr 1
     omega
   · by_cases e3 : j < 2 * k
     · have : j < 2 * (k + 1) := by omega
       simp [e1, e2, e3, this]
     · have : ¬ j < 2 * (k + 1) := by omega
       simp [e1, e2, e3, this]
theorem zss (a : Option Addr) (n cap : Nat) (y : Nat -> Int) (T : Nat) (w : World) (hs : SlF T w (.slice a n cap) n (2 * n) (fun i => .int .i64 (y i))) (hn : n <= 1048576) :
 Calls Tryz.prog 48 #[.slice a n cap] w fun e w' => e = .returned (.slice (some ⟨w.heap.size, 0, none⟩) n n) /\ w'.rowIs w.heap.size 48 (n * 2) (fun i => .int .i64 (y i)) /\ Below w.heap.size w w' := by
 have hn' : (n : Int) <= 1048576 := by omega
 have hm1 := zvx (n : Int) (by omega) (by omega)
 rw [Int.toNat_natCast] at hm1
 have HS : Hid (SlF w.heap.size w (.slice a n cap) n (2 * n) (fun i => .int .i64 (y i))) := hs.here
 clear hs
 go_enter Tryz.func48, Tryz.ntmps48
 go_wp2
 go_loopw [4] (fun u4 wr => ∃ k : Nat, k <= n /\ u4 = .int .i64 k /\ zjn w wr w.heap.size n y k) (fun u4 _ => n - (intOf u4).toNat)
 case atStart => exact ⟨0, Nat.zero_le _, rfl, (Below.refl _ _).alloc (Nat.le_refl _) _, (zr3 w (n * 2) 48).congr (fun i _ => by simp)⟩
 case round =>
  obtain ⟨k, hk, rfl, hF⟩ := hrel
  by_cases hlt : k < n
  · have hlt' : (k : Int) < (n : Int) := by omega
    obtain ⟨br, offr, cap', hv, _, lbr, hcr⟩ := HS.out.parts (k := 0) (by omega)
    simp only [Value.slice.injEq] at hv
    obtain ⟨rfl, _, rfl⟩ := hv
    have hc1 : wr.cell? ⟨br, offr + k * 2, none⟩ = some (.int .i64 (y (2 * k))) := by rw [hF.1.cell (p := ⟨br, offr + k * 2, none⟩) lbr, Nat.mul_comm]; exact hcr (2 * k) (by omega)
    have hd1 : wr.cell? ⟨br, offr + k * 2 + 1, none⟩ = some (.int .i64 (y (2 * k + 1))) := by rw [hF.1.cell (p := ⟨br, offr + k * 2 + 1, none⟩) lbr, Nat.mul_comm]; exact hcr (2 * k + 1) (by omega)
    have HF : Hid (zjn w wr w.heap.size n y k) := hF
    have lK : w.heap.size < wr.heap.size := hF.2.lt
    clear hF hcr HS hm1
    go_wp2_with (go_at_call 59; refine (zk9 _ _ _).mono ?_; rintro e w1 ⟨rfl, b1⟩; have hF1 : zjn w w1 w.heap.size n y k := ⟨zc HF.out.1 b1, HF.out.2.of_block (b1.block _ lK)⟩; have g0 := hF1.2.cell (i := k * 2) (by omega); have g1 := hF1.2.cell (i := k * 2 + 1) (by omega); have gf := hF1.2.frozen)
    exact ⟨⟨k + 1, hlt, by go_num, zqe hF1 (Nat.le_refl _)⟩, by simp [intOf]; omega⟩
  · have hge : (n : Int) <= (k : Int) := by omega
    have hkn : k = n := by omega
    have hR : wr.rowIs w.heap.size 48 (n * 2) (fun i => .int .i64 (y i)) := hF.2.congr (fun j hj => by rw [if_pos (by omega)])
    clear hkn
    go_wp2
    go_ret
    exact ⟨rfl, hR, hF.1⟩
theorem zxl {w : World} {v : Value} {zs : List Int} (h : Sl w v zs) : SlF w.heap.size w v zs.length zs.length (fun i => .int .u64 (za zs i)) := by
 obtain ⟨a, cap, rfl, h⟩ := h
 refine ⟨a, cap, rfl, ?_⟩
 rcases h with rfl | ⟨b, off, rfl, hb, hc⟩
 · exact .inl rfl
 · exact .inr ⟨b, off, rfl, hb, hb, hc⟩
open Go.ChangeShapes Go.WideShapes Go.ChangeAt Go.RowKit Go.Joins Go.Deep
theorem zpr : Tryz.prog.cellsOf 39 = 2 := by kernel_rfl
theorem zps : Tryz.prog.underlying 25 = some (.struct (Tryz.prog.fieldsOf 25)) := by kernel_rfl
theorem zsm : (Tryz.prog.fieldsOf 25).toList.map (fun f => (f.type, f.offset, Tryz.prog.cellsOf f.type)) = [(22, 0, 1), (3, 1, 1), (3, 2, 1), (3, 3, 1), (4, 4, 1), (3, 5, 1), (3, 6, 1), (3, 7, 1), (3, 8, 1), (23, 9, 1)] := by kernel_rfl
theorem zxc {H : Type} {enc : TypeId × Value -> H} {w : World} {fuel : Nat} {v : Value} {x : DataW H × List MemPlace} (h : DataW.trod enc Tryz.prog w 0 (fun _ => true) true fuel 23 [v] = some x) :
 ∃ (ar : Option Addr) (cr : Nat) (rs : List (Int × Int)) (y : Nat -> Int), v = .slice ar rs.length cr /\ rs.length <= 9223372036854775807 /\ SlF w.heap.size w (.slice ar rs.length cr) rs.length (2 * rs.length) (fun i => .int .i64 (y i)) := by
 obtain ⟨f0, f1, hf, g0, g1, g2, g3, g4, g5⟩ : ∃ f0 f1 : Field, Tryz.prog.underlying 39 = some (.struct #[f0, f1]) /\ f0.offset = 0 /\ f1.offset = 1 /\ Tryz.prog.cellsOf f0.type = 1 /\ Tryz.prog.cellsOf f1.type = 1 /\ Tryz.prog.underlying f0.type = some (.int .i64) /\ Tryz.prog.underlying f1.type = some (.int .i64) := ⟨_, _, Tryz.underlying39, by kernel_rfl, by kernel_rfl, by kernel_rfl, by kernel_rfl, by kernel_rfl, by kernel_rfl⟩
 rcases open_slice_pairs Tryz.underlying23 hf zpr g0 g1 g2 g3 h with ⟨hcs, _⟩ | ⟨a, len, cap, m, n, V0, V1, D0, D1, P0, P1, hcs, _, hl, hm, hmm, _, hx⟩
 · simp only [List.cons.injEq, and_true] at hcs
   exact ⟨none, 0, [], fun _ => 0, hcs, by simp, ⟨none, 0, rfl, .inl rfl⟩⟩
 · simp only [List.cons.injEq, and_true] at hcs
   have hmc : m = cap := by simpa using hmm
   subst hmc
   have hi : ∀ i, i < m -> ∃ p : Int × Int, w.cell? (a.add (i * 2)) = some (.int .i64 p.1) /\ w.cell? (a.add (i * 2 + 1)) = some (.int .i64 p.2) := fun i hi => by
    obtain ⟨h1, h2, h3, h4⟩ := hx i hi
    obtain ⟨z0, e0, _⟩ := DataW.trod_int g4 h3
    obtain ⟨z1, e1, _⟩ := DataW.trod_int g5 h4
    simp only [List.cons.injEq, and_true] at e0 e1
    exact ⟨(z0, z1), by rw [h1, e0], by rw [h2, e1]⟩
   obtain ⟨q, hq⟩ := choose_lt hi
   refine ⟨some a, m, List.replicate len (0, 0), fun j => if j % 2 = 0 then (q (j / 2)).1 else (q (j / 2)).2, by simpa using hcs, by simp [maxLen] at hm ⊢; omega, ?_⟩
   refine ⟨some a, m, rfl, ?_⟩
   by_cases h0 : len = 0
   · exact .inl (by simp [h0])
   · obtain ⟨b, off, spot⟩ := a
     have h1 := (hq 0 (by omega)).1
     have hspot : spot = none := by simpa [Addr.add] using World.cell?_spot h1
     subst hspot
     refine .inr ⟨b, off, rfl, ?_, ?_, fun j hj => ?_⟩
     · rw [Addr.add_lit] at h1
       exact World.block_lt_of_cell? _ _ h1
     · rw [Addr.add_lit] at h1
       exact World.block_lt_of_cell? _ _ h1
     · simp only [List.length_replicate] at hj
       obtain ⟨h2, h3⟩ := hq (j / 2) (by omega)
       rw [Addr.add_lit] at h2 h3
       by_cases e : j % 2 = 0
       · have : j / 2 * 2 = j := by omega
         rw [this] at h2
         simp [e, h2]
       · have : j / 2 * 2 + 1 = j := by omega
         rw [this] at h3
         simp [e, h3]
theorem zwf {H : Type} {enc : TypeId × Value -> H} {w : World} {fuel : Nat} {v : Value} {x : DataW H × List MemPlace} (h : DataW.trod enc Tryz.prog w 0 (fun _ => true) true fuel 22 [v] = some x) :
 ∃ (aw : Option Addr) (cw : Nat) (ws : List Int), v = .slice aw ws.length cw /\ ws.length <= 9223372036854775807 /\ Sl w (.slice aw ws.length cw) ws /\ zg ws := by
 rcases open_ints Tryz.underlying22 Tryz.underlying100 (by kernel_rfl) h with ⟨hcs, _⟩ | ⟨a, len, cap, zs, hcs, _, hl, hm, hz, _, hc, hw⟩
 · simp only [List.cons.injEq, and_true] at hcs
   exact ⟨none, 0, [], hcs, by simp, ⟨none, 0, rfl, .inl rfl⟩, fun z hz => by simp at hz⟩
 · simp only [List.cons.injEq, and_true] at hcs
   have hr : zqq .u64 w (some a) len cap zs := .inr ⟨a, rfl, hl, hm, by simpa using hz, hc, hw⟩
   obtain ⟨ys, rfl, h1, h2⟩ := hr.sl
   exact ⟨some a, cap, ys, hcs, by simp [maxLen] at hm; omega, h1, h2⟩
end Go.Proofs.YtmckcnmlhgpnhaaGreat
