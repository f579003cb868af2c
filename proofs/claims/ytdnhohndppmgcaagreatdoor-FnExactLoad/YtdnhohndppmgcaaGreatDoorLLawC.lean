/- - -/
import Derived.Test.YtdnhohndppmgcaaGreatDoorLAllA
import Derived.Deep.SlicePairs
import Derived.Lib.SmallJoins
import Derived.ChangeArms
import Derived.WideShapes
namespace Go.Proofs.YtdnhohndppmgcaaGreatDoor
set_option maxRecDepth 20000
open Go.RowKit
set_option linter.unusedSimpArgs false
set_option linter.unusedVariables false
theorem zvu : (Tryz.prog.info? 57).map (fun i => (i.zero, i.size, i.bytes)) = some (some (.agg #[.int .i64 0, .int .i64 0]), 2, 16) := by kernel_rfl
theorem zmg (l : Int) (h0 : 0 <= l) (h1 : l <= 1048576) (w : World) : (Instr.makeSlice 27 (.int .i64 l) (.int .i64 l)).run Tryz.prog w = .ok (.slice (some ⟨w.heap.size, 0, none⟩) l.toNat l.toNat) (w.alloc (.cells (madeCells #[.int .i64 0, .int .i64 0] (l.toNat * 2)) 57)) := by
 obtain ⟨i, hi, hzz⟩ := Option.map_eq_some_iff.1 zvu
 simp only [Prod.mk.injEq] at hzz
 obtain ⟨hz, hs, hb⟩ := hzz
 have := run_make (P := Tryz.prog) w 27 57 i _ Tryz.underlying27 hi hz .i64 .i64 l l h0 (Int.le_refl _) (by rw [hb]; omega) (by omega)
 rw [hs] at this
 exact this
theorem zqi (w : World) (n : Nat) (t : TypeId) : (w.alloc (.cells (madeCells #[.int .i64 0, .int .i64 0] n) t)).rowIs w.heap.size t n (fun _ => .int .i64 0) :=
 ⟨_, Go.Deep.blk_alloc_new _ _, size_madeCells _ _, fun i hi => by
  have h : i % 2 = 0 \/ i % 2 = 1 := by omega
  rcases h with h | h <;> simp [madeCells, hi, h]⟩
def zak (B T : Nat) (w : World) (vw vr : Value) (n m : Nat) (z y : Nat -> Int) : Prop :=
 ∃ b1 t1 b2 t2, B <= b1 /\ t1 <= T /\ B <= b2 /\ t2 <= T /\ (t1 <= b2 \/ t2 <= b1) /\ zab b1 t1 77 w vw n n (fun i => .int .u64 (z i)) /\ zab b2 t2 57 w vr m (2 * m) (fun i => .int .i64 (y i))
theorem zak.below {B T C : Nat} {w w' : World} {vw vr : Value} {n m : Nat} {z y : Nat -> Int} (h : zak B T w vw vr n m z y) (hb : Below C w w') (hT : T <= C) : zak B T w' vw vr n m z y := by
 obtain ⟨b1, t1, b2, t2, h1, h2, h3, h4, h5, h6, h7⟩ := h
 exact ⟨b1, t1, b2, t2, h1, h2, h3, h4, h5, h6.below hb (by omega), h7.below hb (by omega)⟩
theorem zak.sl {B T : Nat} {w : World} {vw vr : Value} {n m : Nat} {z y : Nat -> Int} (h : zak B T w vw vr n m z y) : SlF T w vw n n (fun i => .int .u64 (z i)) /\ SlF T w vr m (2 * m) (fun i => .int .i64 (y i)) := by
 obtain ⟨b1, t1, b2, t2, h1, h2, h3, h4, h5, h6, h7⟩ := h
 exact ⟨h6.sl.mono h2, h7.sl.mono h4⟩
theorem zgo (a : Option Addr) (n c : Nat) (left : Int) (w : World) (h0 : 0 <= left) (h1 : left <= 1048576) (hn : n <= 9223372036854775807) :
 Calls Tryz.prog 35 #[.slice a n c, .int .i64 left] w fun e w' => e = .returned (.int .i64 (if (n : Int) <= left then left - n else -1)) /\ w' = w := by
 have hn' : (n : Int) <= 9223372036854775807 := by omega
 by_cases h : (n : Int) <= left
 · rw [if_pos h]
   have h2 : 0 <= left - (n : Int) := by omega
   go_enter Tryz.func35, Tryz.ntmps35
   go_wp2
   go_ret
   exact ⟨rfl, rfl⟩
 · rw [if_neg h]
   have h2 : left - (n : Int) < 0 := by omega
   go_enter Tryz.func35, Tryz.ntmps35
   go_wp2
   go_ret
   exact ⟨rfl, rfl⟩
theorem zke (a : Option Addr) (n c : Nat) (left : Int) (w : World) (h0 : 0 <= left) (h1 : left <= 1048576) (hn : n <= 9223372036854775807) :
 Calls Tryz.prog 36 #[.slice a n c, .int .i64 left] w fun e w' => e = .returned (.int .i64 (if (n : Int) <= left then left - n else -1)) /\ w' = w := by
 have hn' : (n : Int) <= 9223372036854775807 := by omega
 by_cases h : (n : Int) <= left
 · rw [if_pos h]
   have h2 : 0 <= left - (n : Int) := by omega
   go_enter Tryz.func36, Tryz.ntmps36
   go_wp2
   go_ret
   exact ⟨rfl, rfl⟩
 · rw [if_neg h]
   have h2 : left - (n : Int) < 0 := by omega
   go_enter Tryz.func36, Tryz.ntmps36
   go_wp2
   go_ret
   exact ⟨rfl, rfl⟩
theorem zi0 (aw : Option Addr) (n cw : Nat) (sm toh top : Int) (cyc : Bool) (sn old cp sr : Int) (ar : Option Addr) (m cr : Nat) (w : World) (hn : n <= 9223372036854775807) (hm : m <= 9223372036854775807) :
 Calls Tryz.prog 11 #[.agg #[.slice aw n cw, .int .i64 sm, .int .i64 toh, .int .i64 top, .bool cyc, .int .i64 sn, .int .i64 old, .int .i64 cp, .int .i64 sr, .slice ar m cr], .int .i64 1048576] w fun e w' => e = .returned (.int .i64 (if (n : Int) + m <= 1048576 then 1048576 - n - m else -1)) /\ Below w.heap.size w w' := by
 by_cases h1 : (n : Int) <= 1048576
 · by_cases h2 : (n : Int) + m <= 1048576
   · have g1 : ¬ (1048576 - (n : Int)) < 0 := by omega
     have g2 : ¬ (1048576 - (n : Int) - m) < 0 := by omega
     have e1 : (if (m : Int) <= 1048576 - (n : Int) then 1048576 - (n : Int) - m else -1) = 1048576 - (n : Int) - m := if_pos (by omega)
     rw [if_pos h2]
     go_enter Tryz.func11, Tryz.ntmps11
     go_wp2_with (first | (go_at_call 35; refine (zgo _ _ _ _ _ (by omega) (by omega) hn).mono ?_; rw [if_pos h1]; rintro e w1 ⟨rfl, rfl⟩) | (go_at_call 36; refine (zke _ _ _ _ _ (by omega) (by omega) hm).mono ?_; rw [e1]; rintro e w2 ⟨rfl, rfl⟩))
     go_ret
     exact ⟨rfl, ze (Below.refl _ _)⟩
   · have g1 : ¬ (1048576 - (n : Int)) < 0 := by omega
     have e1 : (if (m : Int) <= 1048576 - (n : Int) then 1048576 - (n : Int) - m else -1) = -1 := if_neg (by omega)
     rw [if_neg h2]
     go_enter Tryz.func11, Tryz.ntmps11
     go_wp2_with (first | (go_at_call 35; refine (zgo _ _ _ _ _ (by omega) (by omega) hn).mono ?_; rw [if_pos h1]; rintro e w1 ⟨rfl, rfl⟩) | (go_at_call 36; refine (zke _ _ _ _ _ (by omega) (by omega) hm).mono ?_; rw [e1]; rintro e w2 ⟨rfl, rfl⟩))
     go_ret
     exact ⟨rfl, ze (Below.refl _ _)⟩
 · have h2 : ¬ (n : Int) + m <= 1048576 := by omega
   rw [if_neg h2]
   go_enter Tryz.func11, Tryz.ntmps11
   go_wp2_with (first | (go_at_call 35; refine (zgo _ _ _ _ _ (by omega) (by omega) hn).mono ?_; rw [if_neg h1]; rintro e w1 ⟨rfl, rfl⟩))
   go_ret
   exact ⟨rfl, ze (Below.refl _ _)⟩
theorem zr1 (a : Option Addr) (cap : Nat) (zs : List Int) (w : World) (hs : Sl w (.slice a zs.length cap) zs) (hn : zs.length <= 1048576) :
 Calls Tryz.prog 45 #[.slice a zs.length cap] w fun e w' => e = .returned (.slice (some ⟨w.heap.size, 0, none⟩) zs.length zs.length) /\ Own w.heap.size w' (.slice (some ⟨w.heap.size, 0, none⟩) zs.length zs.length) zs /\ Below w.heap.size w w' := by
 obtain ⟨a', cap', he, hs⟩ := hs
 simp only [Value.slice.injEq] at he
 obtain ⟨rfl, _, rfl⟩ := he
 have hmk := fun (n : Nat) (hb : 8 * n <= 281474976710656) (h63 : n <= 9223372036854775807) (w : World) => run_make_row' (P := Tryz.prog) 22 77 (.int .u64 0) 8 Tryz.underlying22 zme rfl .i64 .i64 n hb h63 w
 have hm1 := hmk zs.length (by omega) (by omega)
 clear hmk
 have hn' : (zs.length : Int) <= 1048576 := by omega
 go_enter Tryz.func45, Tryz.ntmps45
 go_wp2
 go_loopw [4] (fun i wr => ∃ k : Nat, k <= zs.length /\ i = .int .i64 k /\ zmf w wr zs.length zs k) (fun i _ => zs.length - (intOf i).toNat)
 case atStart => exact ⟨0, Nat.zero_le _, rfl, zqh w _ _⟩
 case round =>
  obtain ⟨k, hk, rfl, hF⟩ := hrel
  by_cases hlt : k < zs.length
  · have hc1 := hF.2.cell hlt
    have hf1 := hF.2.frozen k
    rcases hs with rfl | ⟨b, off, rfl, hbl, hcell⟩
    · simp at hlt
    · have hc2 : wr.cell? ⟨b, off + k, none⟩ = some (.int .u64 (zs.getD k 0)) := by rw [hF.1.cell (p := ⟨b, off + k, none⟩) hbl]; exact hcell k hlt
      have hst := zsq hF
      have hg : zs[k]?.getD 0 = zs[k] := by simp [hlt]
      go_wp2
      go_roundw
      case rel => exact ⟨k + 1, by omega, by go_num, by simpa [hlt] using hst⟩
      case measure => simp [intOf]; omega
  · go_wp2
    go_ret
    exact ⟨rfl, zui hF hlt, hF.1⟩
def zkf (w wr : World) (K n : Nat) (y : Nat -> Int) (k : Nat) : Prop :=
 Below w.heap.size w wr /\ wr.rowIs K 57 (n * 2) (fun j => .int .i64 (if j < 2 * k then y j else 0))
theorem zr2 {w wr : World} {K n : Nat} {y : Nat -> Int} {k : Nat} (h : zkf w wr K n y k) (hK : w.heap.size <= K) : zkf w ((wr.setCell ⟨K, k * 2, none⟩ (.int .i64 (y (2 * k)))).setCell ⟨K, k * 2 + 1, none⟩ (.int .i64 (y (2 * k + 1)))) K n y (k + 1) := by
 refine ⟨(h.1.setCell (p := ⟨K, k * 2, none⟩) hK _).setCell (p := ⟨K, k * 2 + 1, none⟩) hK _, ((h.2.set (k * 2) _).set (k * 2 + 1) _).congr fun j _ => ?_⟩
 by_cases e1 : j = k * 2 + 1
 · subst e1
   have : k * 2 + 1 < 2 * (k + 1) := by omega
   simp [this]
   congr 1
   omega
 · by_cases e2 : j = k * 2
   · subst e2
     have h1 : k * 2 < 2 * (k + 1) := by omega
     simp [h1]
     congr 1
     omega
   · by_cases e3 : j < 2 * k
     · have : j < 2 * (k + 1) := by omega
       simp [e1, e2, e3, this]
     · have : ¬ j < 2 * (k + 1) := by omega
       simp [e1, e2, e3, this]
theorem zt2 (a : Option Addr) (n cap : Nat) (y : Nat -> Int) (T : Nat) (w : World) (hs : SlF T w (.slice a n cap) n (2 * n) (fun i => .int .i64 (y i))) (hn : n <= 1048576) :
 Calls Tryz.prog 46 #[.slice a n cap] w fun e w' => e = .returned (.slice (some ⟨w.heap.size, 0, none⟩) n n) /\ w'.rowIs w.heap.size 57 (n * 2) (fun i => .int .i64 (y i)) /\ Below w.heap.size w w' := by
 have hn' : (n : Int) <= 1048576 := by omega
 have hm1 := zmg (n : Int) (by omega) (by omega)
 rw [Int.toNat_natCast] at hm1
 have HS : Hid (SlF w.heap.size w (.slice a n cap) n (2 * n) (fun i => .int .i64 (y i))) := hs.here
 clear hs
 go_enter Tryz.func46, Tryz.ntmps46
 go_wp2
 go_loopw [4] (fun u4 wr => ∃ k : Nat, k <= n /\ u4 = .int .i64 k /\ zkf w wr w.heap.size n y k) (fun u4 _ => n - (intOf u4).toNat)
 case atStart => exact ⟨0, Nat.zero_le _, rfl, (Below.refl _ _).alloc (Nat.le_refl _) _, (zqi w (n * 2) 57).congr (fun i _ => by simp)⟩
 case round =>
  obtain ⟨k, hk, rfl, hF⟩ := hrel
  by_cases hlt : k < n
  · have hlt' : (k : Int) < (n : Int) := by omega
    obtain ⟨br, offr, cap', hv, _, lbr, hcr⟩ := HS.out.parts (k := 0) (by omega)
    simp only [Value.slice.injEq] at hv
    obtain ⟨rfl, _, rfl⟩ := hv
    have hc1 : wr.cell? ⟨br, offr + k * 2, none⟩ = some (.int .i64 (y (2 * k))) := by rw [hF.1.cell (p := ⟨br, offr + k * 2, none⟩) lbr, Nat.mul_comm]; exact hcr (2 * k) (by omega)
    have hd1 : wr.cell? ⟨br, offr + k * 2 + 1, none⟩ = some (.int .i64 (y (2 * k + 1))) := by rw [hF.1.cell (p := ⟨br, offr + k * 2 + 1, none⟩) lbr, Nat.mul_comm]; exact hcr (2 * k + 1) (by omega)
    have HF : Hid (zkf w wr w.heap.size n y k) := hF
    have lK : w.heap.size < wr.heap.size := hF.2.lt
    clear hF hcr HS hm1
    go_wp2_with (go_at_call 76; refine (zsp _ _ _).mono ?_; rintro e w1 ⟨rfl, b1⟩; have hF1 : zkf w w1 w.heap.size n y k := ⟨zc HF.out.1 b1, HF.out.2.of_block (b1.block _ lK)⟩; have g0 := hF1.2.cell (i := k * 2) (by omega); have g1 := hF1.2.cell (i := k * 2 + 1) (by omega); have gf := hF1.2.frozen)
    exact ⟨⟨k + 1, hlt, by go_num, zr2 hF1 (Nat.le_refl _)⟩, by simp [intOf]; omega⟩
  · have hge : (n : Int) <= (k : Int) := by omega
    have hkn : k = n := by omega
    have hR : wr.rowIs w.heap.size 57 (n * 2) (fun i => .int .i64 (y i)) := hF.2.congr (fun j hj => by rw [if_pos (by omega)])
    clear hkn
    go_wp2
    go_ret
    exact ⟨rfl, hR, hF.1⟩
theorem zam {w W : World} {o : Obj} (h : Below w.heap.size w W) : Below w.heap.size w (W.alloc o) := h.alloc h.size o
open Go.ChangeShapes Go.WideShapes Go.ChangeAt Go.RowKit Go.Joins Go.Deep
theorem zwr {α : Type} {cs : Array α} (h : cs.size = 10) : ∃ c0 c1 c2 c3 c4 c5 c6 c7 c8 c9, cs = #[c0, c1, c2, c3, c4, c5, c6, c7, c8, c9] := by
 obtain ⟨l⟩ := cs
 match l, h with
 | [c0, c1, c2, c3, c4, c5, c6, c7, c8, c9], _ => exact ⟨c0, c1, c2, c3, c4, c5, c6, c7, c8, c9, rfl⟩
theorem zsc : Tryz.prog.cellsOf 25 = 10 := by kernel_rfl
theorem zpq : Tryz.prog.cellsOf 93 = 2 := by kernel_rfl
theorem zi2 : Tryz.prog.underlying 25 = some (.struct (Tryz.prog.fieldsOf 25)) := by kernel_rfl
theorem zsd : (Tryz.prog.fieldsOf 25).toList.map (fun f => (f.type, f.offset, Tryz.prog.cellsOf f.type)) = [(22, 0, 1), (3, 1, 1), (3, 2, 1), (3, 3, 1), (4, 4, 1), (3, 5, 1), (3, 6, 1), (3, 7, 1), (3, 8, 1), (23, 9, 1)] := by kernel_rfl
theorem zws {H : Type} {enc : TypeId × Value -> H} {w : World} {fuel : Nat} {v : Value} {x : DataW H × List MemPlace} (h : DataW.trod enc Tryz.prog w 0 (fun _ => true) true fuel 23 [v] = some x) :
 ∃ (ar : Option Addr) (cr : Nat) (rs : List (Int × Int)) (y : Nat -> Int), v = .slice ar rs.length cr /\ rs.length <= 9223372036854775807 /\ SlF w.heap.size w (.slice ar rs.length cr) rs.length (2 * rs.length) (fun i => .int .i64 (y i)) := by
 obtain ⟨f0, f1, hf, g0, g1, g2, g3, g4, g5⟩ : ∃ f0 f1 : Field, Tryz.prog.underlying 93 = some (.struct #[f0, f1]) /\ f0.offset = 0 /\ f1.offset = 1 /\ Tryz.prog.cellsOf f0.type = 1 /\ Tryz.prog.cellsOf f1.type = 1 /\ Tryz.prog.underlying f0.type = some (.int .i64) /\ Tryz.prog.underlying f1.type = some (.int .i64) := ⟨_, _, Tryz.underlying93, by kernel_rfl, by kernel_rfl, by kernel_rfl, by kernel_rfl, by kernel_rfl, by kernel_rfl⟩
 rcases open_slice_pairs Tryz.underlying23 hf zpq g0 g1 g2 g3 h with ⟨hcs, _⟩ | ⟨a, len, cap, m, n, V0, V1, D0, D1, P0, P1, hcs, _, hl, hm, hmm, _, hx⟩
 · simp only [List.cons.injEq, and_true] at hcs
   exact ⟨none, 0, [], fun _ => 0, hcs, by simp, ⟨none, 0, rfl, .inl rfl⟩⟩
 · simp only [List.cons.injEq, and_true] at hcs
   have hmc : m = cap := by simpa using hmm
   subst hmc
   have hi : ∀ i, i < m -> ∃ p : Int × Int, w.cell? (a.add (i * 2)) = some (.int .i64 p.1) /\ w.cell? (a.add (i * 2 + 1)) = some (.int .i64 p.2) := fun i hi => by
    obtain ⟨h1, h2, h3, h4⟩ := hx i hi
    obtain ⟨z0, e0, _⟩ := DataW.trod_int g4 h3
    obtain ⟨z1, e1, _⟩ := DataW.trod_int g5 h4
    simp only [List.cons.injEq, and_true] at e0 e1
    exact ⟨(z0, z1), by rw [h1, e0], by rw [h2, e1]⟩
   obtain ⟨q, hq⟩ := choose_lt hi
   refine ⟨some a, m, List.replicate len (0, 0), fun j => if j % 2 = 0 then (q (j / 2)).1 else (q (j / 2)).2, by simpa using hcs, by simp [maxLen] at hm ⊢; omega, ?_⟩
   refine ⟨some a, m, rfl, ?_⟩
   by_cases h0 : len = 0
   · exact .inl (by simp [h0])
   · obtain ⟨b, off, spot⟩ := a
     have h1 := (hq 0 (by omega)).1
     have hspot : spot = none := by simpa [Addr.add] using World.cell?_spot h1
     subst hspot
     refine .inr ⟨b, off, rfl, ?_, ?_, fun j hj => ?_⟩
     · rw [Addr.add_lit] at h1
       exact World.block_lt_of_cell? _ _ h1
     · rw [Addr.add_lit] at h1
       exact World.block_lt_of_cell? _ _ h1
     · simp only [List.length_replicate] at hj
       obtain ⟨h2, h3⟩ := hq (j / 2) (by omega)
       rw [Addr.add_lit] at h2 h3
       by_cases e : j % 2 = 0
       · have : j / 2 * 2 = j := by omega
         rw [this] at h2
         simp [e, h2]
       · have : j / 2 * 2 + 1 = j := by omega
         rw [this] at h3
         simp [e, h3]
theorem zvt {H : Type} {enc : TypeId × Value -> H} {w : World} {fuel : Nat} {v : Value} {x : DataW H × List MemPlace} (h : DataW.trod enc Tryz.prog w 0 (fun _ => true) true fuel 22 [v] = some x) :
 ∃ (aw : Option Addr) (cw : Nat) (ws : List Int), v = .slice aw ws.length cw /\ ws.length <= 9223372036854775807 /\ Sl w (.slice aw ws.length cw) ws /\ zg ws := by
 rcases open_ints Tryz.underlying22 Tryz.underlying77 (by kernel_rfl) h with ⟨hcs, _⟩ | ⟨a, len, cap, zs, hcs, _, hl, hm, hz, _, hc, hw⟩
 · simp only [List.cons.injEq, and_true] at hcs
   exact ⟨none, 0, [], hcs, by simp, ⟨none, 0, rfl, .inl rfl⟩, fun z hz => by simp at hz⟩
 · simp only [List.cons.injEq, and_true] at hcs
   have hr : zqg .u64 w (some a) len cap zs := .inr ⟨a, rfl, hl, hm, by simpa using hz, hc, hw⟩
   obtain ⟨ys, rfl, h1, h2⟩ := hr.sl
   exact ⟨some a, cap, ys, hcs, by simp [maxLen] at hm; omega, h1, h2⟩
theorem zse {H : Type} {enc : TypeId × Value -> H} {w : World} {r : Reach} {b0 : Nat} {v : Value} {d : DataW H} {p : List MemPlace} (hv : Value.okWide Tryz.prog w r b0 25 v) (h : DataW.Trod enc Tryz.prog w 0 (fun _ => true) true 25 v d p) :
 ∃ (aw : Option Addr) (cw : Nat) (ws : List Int) (sm toh top : Int) (cyc : Bool) (sn old cp sr : Int) (ar : Option Addr) (cr : Nat) (rs : List (Int × Int)) (y : Nat -> Int), v = .agg #[.slice aw ws.length cw, .int .i64 sm, .int .i64 toh, .int .i64 top, .bool cyc, .int .i64 sn, .int .i64 old, .int .i64 cp, .int .i64 sr, .slice ar rs.length cr] /\ Sl w (.slice aw ws.length cw) ws /\ zg ws /\ SlF w.heap.size w (.slice ar rs.length cr) rs.length (2 * rs.length) (fun i => .int .i64 (y i)) /\ ws.length <= 9223372036854775807 /\ rs.length <= 9223372036854775807 := by
 obtain ⟨cs, rfl, hsz⟩ := okWide_struct zi2 hv
 obtain ⟨c0, c1, c2, c3, c4, c5, c6, c7, c8, c9, rfl⟩ := zwr (hsz.trans zsc)
 obtain ⟨fuel, hf⟩ := h
 obtain ⟨xs, n, _, _, _, hlen, hall⟩ := DataW.trod_struct zi2 hf
 have hfld := zsd
 generalize Tryz.prog.fieldsOf 25 = fs at hall hfld hlen
 obtain ⟨l⟩ := fs
 have hl : l.length = 10 := by have := congrArg List.length hfld; simpa using this
 match l, hl with
 | [f0, f1, f2, f3, f4, f5, f6, f7, f8, f9], _ =>
   simp only [List.map_cons, List.map_nil, List.cons.injEq, Prod.mk.injEq, and_true] at hfld
   obtain ⟨⟨a0, b0, d0⟩, ⟨a1, b1, d1⟩, ⟨a2, b2, d2⟩, ⟨a3, b3, d3⟩, ⟨a4, b4, d4⟩, ⟨a5, b5, d5⟩, ⟨a6, b6, d6⟩, ⟨a7, b7, d7⟩, ⟨a8, b8, d8⟩, a9, b9, d9⟩ := hfld
   simp at hlen
   match xs, hlen with
   | [y0, y1, y2, y3, y4, y5, y6, y7, y8, y9], _ =>
     have e0 := hall 0 f0 rfl
     have e1 := hall 1 f1 rfl
     have e2 := hall 2 f2 rfl
     have e3 := hall 3 f3 rfl
     have e4 := hall 4 f4 rfl
     have e5 := hall 5 f5 rfl
     have e6 := hall 6 f6 rfl
     have e7 := hall 7 f7 rfl
     have e8 := hall 8 f8 rfl
     have e9 := hall 9 f9 rfl
     rw [a0, b0] at e0
     rw [a1, b1] at e1
     rw [a2, b2] at e2
     rw [a3, b3] at e3
     rw [a4, b4] at e4
     rw [a5, b5] at e5
     rw [a6, b6] at e6
     rw [a7, b7] at e7
     rw [a8, b8] at e8
     rw [a9, b9] at e9
     rw [a0] at d0
     rw [a1] at d1
     rw [a4] at d4
     rw [a9] at d9
     simp [Value.cells, d0, d1, d4, d9] at e0 e1 e2 e3 e4 e5 e6 e7 e8 e9
     obtain ⟨aw, cw, ws, rfl, l1, s1, w1⟩ := zvt e0
     obtain ⟨z1, k1, _⟩ := DataW.trod_int Tryz.underlying3 e1
     obtain ⟨z2, k2, _⟩ := DataW.trod_int Tryz.underlying3 e2
     obtain ⟨z3, k3, _⟩ := DataW.trod_int Tryz.underlying3 e3
     obtain ⟨z4, k4, _⟩ := DataW.trod_bool Tryz.underlying4 e4
     obtain ⟨z5, k5, _⟩ := DataW.trod_int Tryz.underlying3 e5
     obtain ⟨z6, k6, _⟩ := DataW.trod_int Tryz.underlying3 e6
     obtain ⟨z7, k7, _⟩ := DataW.trod_int Tryz.underlying3 e7
     obtain ⟨z8, k8, _⟩ := DataW.trod_int Tryz.underlying3 e8
     obtain ⟨ar, cr, rs, y, rfl, l2, s2⟩ := zws e9
     simp only [List.cons.injEq, and_true] at k1 k2 k3 k4 k5 k6 k7 k8
     subst k1 k2 k3 k4 k5 k6 k7 k8
     exact ⟨aw, cw, ws, z1, z2, z3, z4, z5, z6, z7, z8, ar, cr, rs, y, rfl, s1, w1, s2, l1, l2⟩
end Go.Proofs.YtdnhohndppmgcaaGreatDoor
