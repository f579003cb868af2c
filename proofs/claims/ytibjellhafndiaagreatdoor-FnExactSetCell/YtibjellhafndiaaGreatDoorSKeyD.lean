/- The program's keyOf. -/
import Derived.Test.YtibjellhafndiaaGreatDoorProg
import Derived.Test.YtibjellhafndiaaGreatDoorSKeyB
import Derived.Test.YtibjellhafndiaaGreatDoorSSvB
import Derived.Deep.RegionHeld3
namespace Go.Proofs.YtibjellhafndiaaGreatDoor
set_option maxRecDepth 20000
open Go.RowKit
set_option linter.unusedSimpArgs false
set_option linter.unusedVariables false

theorem keyOf_else (b off cw : Nat) (ws : List Int) (semi toh top : Int) (cyc : Bool) (scan old copied serial : Int) (ar : Option Addr) (cr : Nat) (rs : List (Int × Int)) (t m : Int) (w : World) (h3 : (t == 3) = false) (h4 : (t == 4) = false) (h5 : (t == 5) = false) (h6 : (t == 6) = false) :
    Calls Tryz.prog 153 #[(.agg #[.slice (some ⟨b, off, none⟩) ws.length cw, .int .i64 semi, .int .i64 toh, .int .i64 top, .bool cyc, .int .i64 scan, .int .i64 old, .int .i64 copied, .int .i64 serial, .slice ar rs.length cr]), .agg #[.int .i64 t, .int .i64 m]] w fun e w' => e = .returned (.agg #[.int .i64 t, .int .i64 m, .string ⟨#[]⟩]) ∧ Below w.heap.size w w' := by
  go_enter Tryz.func153, Tryz.ntmps153
  go_wp2
  refine bodyPost_ret (v := .agg #[.int .i64 t, .int .i64 m, .string ⟨#[]⟩]) (by simp [results, Tryz.results153, go_sem]) rfl ⟨rfl, ?_⟩
  exact below_third (Below.refl _ _)
theorem set3_cells {W : World} {K c : Nat} {A : Array Value} (hne : c ≠ K) (h : ∀ i, W.cell? ⟨c, i, none⟩ = A[i]?) (u0 u1 u2 : Value) : ∀ i, (((W.setCell ⟨K, 0, none⟩ u0).setCell ⟨K, 1, none⟩ u1).setCell ⟨K, 2, none⟩ u2).cell? ⟨c, i, none⟩ = A[i]? := fun i => by
  rw [World.cell?_setCell_other _ _ _ _ (fun e => hne (congrArg Addr.block e).symm), World.cell?_setCell_other _ _ _ _ (fun e => hne (congrArg Addr.block e).symm), World.cell?_setCell_other _ _ _ _ (fun e => hne (congrArg Addr.block e).symm)]
  exact h i
set_option maxHeartbeats 2000000 in
theorem keyOf_text (b off cw : Nat) (ws : List Int) (semi toh top : Int) (cyc : Bool) (scan old copied serial : Int) (ar : Option Addr) (cr : Nat) (rs : List (Int × Int)) (t m : Int) (P P' : Nat) (w : World) (h3 : (t == 3) = true) (hb : b < w.heap.size) (hc : ∀ i, i < ws.length → w.cell? ⟨b, off + i, none⟩ = some (.int .u64 (wordAt ws i))) (hn : ws.length ≤ 1048576) (hw : Words64 ws) (hP : m = P) (hP1 : P < ws.length) (hP' : leadsAt ws P = P') (tP : TextIn ws P') :
    Calls Tryz.prog 153 #[(.agg #[.slice (some ⟨b, off, none⟩) ws.length cw, .int .i64 semi, .int .i64 toh, .int .i64 top, .bool cyc, .int .i64 scan, .int .i64 old, .int .i64 copied, .int .i64 serial, .slice ar rs.length cr]), .agg #[.int .i64 t, .int .i64 m]] w fun e w' => e = .returned (.agg #[.int .i64 t, .int .i64 0, .string (txt ws P')]) ∧ Below w.heap.size w w' := by
  have HP : Hid (m = (P : Int)) := hP
  have HP' : Hid (leadsAt ws P = (P' : Int)) := hP'
  have wP := (word_in hw (P' + 1)).1
  have nP : Hid (wordAt ws (P' + 1) = (txtN ws P' : Int)) := by show wordAt ws (P' + 1) = (txtN ws P' : Int); unfold txtN; omega
  have n1P : txtN ws P' ≤ 160 := by have := tP.1; unfold txtN; omega
  have n2P := tP.2
  clear hP hP' wP tP
  have HC : ∀ W, Below (((w.alloc (.cells #[.slice (some ⟨b, off, none⟩) ws.length cw, .int .i64 semi, .int .i64 toh, .int .i64 top, .bool cyc, .int .i64 scan, .int .i64 old, .int .i64 copied, .int .i64 serial, .slice ar rs.length cr] 29)).alloc (.cells #[.int .i64 t, .int .i64 m] 60)).alloc (.cells #[.int .i64 0, .int .i64 0, .string ⟨#[]⟩] 174)).heap.size (((w.alloc (.cells #[.slice (some ⟨b, off, none⟩) ws.length cw, .int .i64 semi, .int .i64 toh, .int .i64 top, .bool cyc, .int .i64 scan, .int .i64 old, .int .i64 copied, .int .i64 serial, .slice ar rs.length cr] 29)).alloc (.cells #[.int .i64 t, .int .i64 m] 60)).alloc (.cells #[.int .i64 0, .int .i64 0, .string ⟨#[]⟩] 174)) W → b < W.heap.size ∧ ∀ i, i < ws.length → W.cell? ⟨b, off + i, none⟩ = some (.int .u64 (wordAt ws i)) := fun W hW => arx_cells hb hc (below_third hW)
  have KP : ∀ W, Below (((w.alloc (.cells #[.slice (some ⟨b, off, none⟩) ws.length cw, .int .i64 semi, .int .i64 toh, .int .i64 top, .bool cyc, .int .i64 scan, .int .i64 old, .int .i64 copied, .int .i64 serial, .slice ar rs.length cr] 29)).alloc (.cells #[.int .i64 t, .int .i64 m] 60)).alloc (.cells #[.int .i64 0, .int .i64 0, .string ⟨#[]⟩] 174)).heap.size (((w.alloc (.cells #[.slice (some ⟨b, off, none⟩) ws.length cw, .int .i64 semi, .int .i64 toh, .int .i64 top, .bool cyc, .int .i64 scan, .int .i64 old, .int .i64 copied, .int .i64 serial, .slice ar rs.length cr] 29)).alloc (.cells #[.int .i64 t, .int .i64 m] 60)).alloc (.cells #[.int .i64 0, .int .i64 0, .string ⟨#[]⟩] 174)) W → (∀ i, W.cell? ⟨w.heap.size, i, none⟩ = (#[.slice (some ⟨b, off, none⟩) ws.length cw, .int .i64 semi, .int .i64 toh, .int .i64 top, .bool cyc, .int .i64 scan, .int .i64 old, .int .i64 copied, .int .i64 serial, .slice ar rs.length cr] : Array Value)[i]?) ∧ (∀ i, W.cell? ⟨w.heap.size + 1, i, none⟩ = (#[.int .i64 t, .int .i64 m] : Array Value)[i]?) := fun W hW => ⟨(three_cells hW).1, (three_cells hW).2.1⟩
  have KQ : ∀ (W : World) (u0 u1 u2 : Value), ((∀ i, W.cell? ⟨w.heap.size, i, none⟩ = (#[.slice (some ⟨b, off, none⟩) ws.length cw, .int .i64 semi, .int .i64 toh, .int .i64 top, .bool cyc, .int .i64 scan, .int .i64 old, .int .i64 copied, .int .i64 serial, .slice ar rs.length cr] : Array Value)[i]?) ∧ (∀ i, W.cell? ⟨w.heap.size + 1, i, none⟩ = (#[.int .i64 t, .int .i64 m] : Array Value)[i]?)) → (fun W : World => (∀ i, W.cell? ⟨w.heap.size, i, none⟩ = (#[.slice (some ⟨b, off, none⟩) ws.length cw, .int .i64 semi, .int .i64 toh, .int .i64 top, .bool cyc, .int .i64 scan, .int .i64 old, .int .i64 copied, .int .i64 serial, .slice ar rs.length cr] : Array Value)[i]?) ∧ (∀ i, W.cell? ⟨w.heap.size + 1, i, none⟩ = (#[.int .i64 t, .int .i64 m] : Array Value)[i]?)) (((W.setCell ⟨w.heap.size + 1 + 1, 0, none⟩ u0).setCell ⟨w.heap.size + 1 + 1, 1, none⟩ u1).setCell ⟨w.heap.size + 1 + 1, 2, none⟩ u2) := fun W u0 u1 u2 h => ⟨set3_cells (by omega) h.1 u0 u1 u2, set3_cells (by omega) h.2 u0 u1 u2⟩
  have b1' := (Below.refl (((w.alloc (.cells #[.slice (some ⟨b, off, none⟩) ws.length cw, .int .i64 semi, .int .i64 toh, .int .i64 top, .bool cyc, .int .i64 scan, .int .i64 old, .int .i64 copied, .int .i64 serial, .slice ar rs.length cr] 29)).alloc (.cells #[.int .i64 t, .int .i64 m] 60)).alloc (.cells #[.int .i64 0, .int .i64 0, .string ⟨#[]⟩] 174)).heap.size (((w.alloc (.cells #[.slice (some ⟨b, off, none⟩) ws.length cw, .int .i64 semi, .int .i64 toh, .int .i64 top, .bool cyc, .int .i64 scan, .int .i64 old, .int .i64 copied, .int .i64 serial, .slice ar rs.length cr] 29)).alloc (.cells #[.int .i64 t, .int .i64 m] 60)).alloc (.cells #[.int .i64 0, .int .i64 0, .string ⟨#[]⟩] 174))).drew
  clear hc
  go_enter Tryz.func153, Tryz.ntmps153
  go_wp2
  go_region_held3 (fun W => (∀ i, W.cell? ⟨w.heap.size, i, none⟩ = (#[.slice (some ⟨b, off, none⟩) ws.length cw, .int .i64 semi, .int .i64 toh, .int .i64 top, .bool cyc, .int .i64 scan, .int .i64 old, .int .i64 copied, .int .i64 serial, .slice ar rs.length cr] : Array Value)[i]?) ∧ (∀ i, W.cell? ⟨w.heap.size + 1, i, none⟩ = (#[.int .i64 t, .int .i64 m] : Array Value)[i]?)) (first | assumption | exact KP _ b1' | exact KP _ (by assumption) | exact KQ _ _ _ _ (by assumption)) (first | (go_at_call 192; refine (object_at _ _ _ _ _ _ _ _ _ _ _ _ _ _ _ t m P _ HP.out (HC _ b1').1 (HC _ b1').2 hn hw hP1).mono ?_; rintro e wo ⟨rfl, hb⟩; have hBo := below_next (w := (((w.alloc (.cells #[.slice (some ⟨b, off, none⟩) ws.length cw, .int .i64 semi, .int .i64 toh, .int .i64 top, .bool cyc, .int .i64 scan, .int .i64 old, .int .i64 copied, .int .i64 serial, .slice ar rs.length cr] 29)).alloc (.cells #[.int .i64 t, .int .i64 m] 60)).alloc (.cells #[.int .i64 0, .int .i64 0, .string ⟨#[]⟩] 174))) b1' hb; clear hb) | (go_at_call 188; refine (textAt_at _ _ _ _ _ _ _ _ _ _ _ _ _ _ _ _ P' (txtN ws P') _ HP'.out (HC _ hBo).1 (HC _ hBo).2 hn hw nP.out n1P n2P).mono ?_; rintro e wt ⟨rfl, hb⟩; have hBt := below_next (w := (((w.alloc (.cells #[.slice (some ⟨b, off, none⟩) ws.length cw, .int .i64 semi, .int .i64 toh, .int .i64 top, .bool cyc, .int .i64 scan, .int .i64 old, .int .i64 copied, .int .i64 serial, .slice ar rs.length cr] 29)).alloc (.cells #[.int .i64 t, .int .i64 m] 60)).alloc (.cells #[.int .i64 0, .int .i64 0, .string ⟨#[]⟩] 174))) hBo hb; obtain ⟨_, _, kt⟩ := three_cells hBt; have ft : ∀ i, wt.frozen? ⟨w.heap.size + 1 + 1, i, none⟩ = false := fun i => (by rw [(bcell hBt).2 _ _ (by simp)]; simp [go_sem]); clear hb))
  all_goals
    go_wp2
    have p0 : (wt.cell? ⟨w.heap.size + 1 + 1, 0, none⟩).isSome = true := by rw [kt 0]; rfl
    have p1 : (wt.cell? ⟨w.heap.size + 1 + 1, 1, none⟩).isSome = true := by rw [kt 1]; rfl
    have p2 : (wt.cell? ⟨w.heap.size + 1 + 1, 2, none⟩).isSome = true := by rw [kt 2]; rfl
    refine bodyPost_ret (v := .agg #[.int .i64 t, .int .i64 0, .string (txt ws P')]) (by simp [results, Tryz.results153, go_sem, p0, p1, p2]) rfl ⟨rfl, ?_⟩
    have hle : w.heap.size ≤ w.heap.size + 1 + 1 := by omega
    exact (((below_third hBt).setCell (p := ⟨w.heap.size + 1 + 1, 0, none⟩) hle _).setCell (p := ⟨w.heap.size + 1 + 1, 1, none⟩) hle _).setCell (p := ⟨w.heap.size + 1 + 1, 2, none⟩) hle _
set_option maxHeartbeats 2000000 in
theorem keyOf_born (b off cw : Nat) (ws : List Int) (semi toh top : Int) (cyc : Bool) (scan old copied serial : Int) (ar : Option Addr) (cr : Nat) (rs : List (Int × Int)) (t m : Int) (P P' : Nat) (w : World) (h3 : (t == 3) = false) (h456 : (t == 4) = true ∨ (t == 4) = false ∧ (t == 5) = true ∨ (t == 4) = false ∧ (t == 5) = false ∧ (t == 6) = true) (hb : b < w.heap.size) (hc : ∀ i, i < ws.length → w.cell? ⟨b, off + i, none⟩ = some (.int .u64 (wordAt ws i))) (hn : ws.length ≤ 1048576) (hw : Words64 ws) (hP : m = P) (hP1 : P < ws.length) (hP' : leadsAt ws P = P') (hP2 : P' < ws.length) :
    Calls Tryz.prog 153 #[(.agg #[.slice (some ⟨b, off, none⟩) ws.length cw, .int .i64 semi, .int .i64 toh, .int .i64 top, .bool cyc, .int .i64 scan, .int .i64 old, .int .i64 copied, .int .i64 serial, .slice ar rs.length cr]), .agg #[.int .i64 t, .int .i64 m]] w fun e w' => e = .returned (.agg #[.int .i64 t, .int .i64 (rdN (wordAt ws P')), .string ⟨#[]⟩]) ∧ Below w.heap.size w w' := by
  have HP : Hid (m = (P : Int)) := hP
  have HP' : Hid (leadsAt ws P = (P' : Int)) := hP'
  have hfs := field_serial
  clear hP hP'
  have HC : ∀ W, Below (((w.alloc (.cells #[.slice (some ⟨b, off, none⟩) ws.length cw, .int .i64 semi, .int .i64 toh, .int .i64 top, .bool cyc, .int .i64 scan, .int .i64 old, .int .i64 copied, .int .i64 serial, .slice ar rs.length cr] 29)).alloc (.cells #[.int .i64 t, .int .i64 m] 60)).alloc (.cells #[.int .i64 0, .int .i64 0, .string ⟨#[]⟩] 174)).heap.size (((w.alloc (.cells #[.slice (some ⟨b, off, none⟩) ws.length cw, .int .i64 semi, .int .i64 toh, .int .i64 top, .bool cyc, .int .i64 scan, .int .i64 old, .int .i64 copied, .int .i64 serial, .slice ar rs.length cr] 29)).alloc (.cells #[.int .i64 t, .int .i64 m] 60)).alloc (.cells #[.int .i64 0, .int .i64 0, .string ⟨#[]⟩] 174)) W → b < W.heap.size ∧ ∀ i, i < ws.length → W.cell? ⟨b, off + i, none⟩ = some (.int .u64 (wordAt ws i)) := fun W hW => arx_cells hb hc (below_third hW)
  have KP : ∀ W, Below (((w.alloc (.cells #[.slice (some ⟨b, off, none⟩) ws.length cw, .int .i64 semi, .int .i64 toh, .int .i64 top, .bool cyc, .int .i64 scan, .int .i64 old, .int .i64 copied, .int .i64 serial, .slice ar rs.length cr] 29)).alloc (.cells #[.int .i64 t, .int .i64 m] 60)).alloc (.cells #[.int .i64 0, .int .i64 0, .string ⟨#[]⟩] 174)).heap.size (((w.alloc (.cells #[.slice (some ⟨b, off, none⟩) ws.length cw, .int .i64 semi, .int .i64 toh, .int .i64 top, .bool cyc, .int .i64 scan, .int .i64 old, .int .i64 copied, .int .i64 serial, .slice ar rs.length cr] 29)).alloc (.cells #[.int .i64 t, .int .i64 m] 60)).alloc (.cells #[.int .i64 0, .int .i64 0, .string ⟨#[]⟩] 174)) W → (∀ i, W.cell? ⟨w.heap.size, i, none⟩ = (#[.slice (some ⟨b, off, none⟩) ws.length cw, .int .i64 semi, .int .i64 toh, .int .i64 top, .bool cyc, .int .i64 scan, .int .i64 old, .int .i64 copied, .int .i64 serial, .slice ar rs.length cr] : Array Value)[i]?) ∧ (∀ i, W.cell? ⟨w.heap.size + 1, i, none⟩ = (#[.int .i64 t, .int .i64 m] : Array Value)[i]?) := fun W hW => ⟨(three_cells hW).1, (three_cells hW).2.1⟩
  have KQ : ∀ (W : World) (u0 u1 u2 : Value), ((∀ i, W.cell? ⟨w.heap.size, i, none⟩ = (#[.slice (some ⟨b, off, none⟩) ws.length cw, .int .i64 semi, .int .i64 toh, .int .i64 top, .bool cyc, .int .i64 scan, .int .i64 old, .int .i64 copied, .int .i64 serial, .slice ar rs.length cr] : Array Value)[i]?) ∧ (∀ i, W.cell? ⟨w.heap.size + 1, i, none⟩ = (#[.int .i64 t, .int .i64 m] : Array Value)[i]?)) → (fun W : World => (∀ i, W.cell? ⟨w.heap.size, i, none⟩ = (#[.slice (some ⟨b, off, none⟩) ws.length cw, .int .i64 semi, .int .i64 toh, .int .i64 top, .bool cyc, .int .i64 scan, .int .i64 old, .int .i64 copied, .int .i64 serial, .slice ar rs.length cr] : Array Value)[i]?) ∧ (∀ i, W.cell? ⟨w.heap.size + 1, i, none⟩ = (#[.int .i64 t, .int .i64 m] : Array Value)[i]?)) (((W.setCell ⟨w.heap.size + 1 + 1, 0, none⟩ u0).setCell ⟨w.heap.size + 1 + 1, 1, none⟩ u1).setCell ⟨w.heap.size + 1 + 1, 2, none⟩ u2) := fun W u0 u1 u2 h => ⟨set3_cells (by omega) h.1 u0 u1 u2, set3_cells (by omega) h.2 u0 u1 u2⟩
  have b1' := (Below.refl (((w.alloc (.cells #[.slice (some ⟨b, off, none⟩) ws.length cw, .int .i64 semi, .int .i64 toh, .int .i64 top, .bool cyc, .int .i64 scan, .int .i64 old, .int .i64 copied, .int .i64 serial, .slice ar rs.length cr] 29)).alloc (.cells #[.int .i64 t, .int .i64 m] 60)).alloc (.cells #[.int .i64 0, .int .i64 0, .string ⟨#[]⟩] 174)).heap.size (((w.alloc (.cells #[.slice (some ⟨b, off, none⟩) ws.length cw, .int .i64 semi, .int .i64 toh, .int .i64 top, .bool cyc, .int .i64 scan, .int .i64 old, .int .i64 copied, .int .i64 serial, .slice ar rs.length cr] 29)).alloc (.cells #[.int .i64 t, .int .i64 m] 60)).alloc (.cells #[.int .i64 0, .int .i64 0, .string ⟨#[]⟩] 174))).drew
  clear hc
  rcases h456 with h4 | ⟨h4, h5⟩ | ⟨h4, h5, h6⟩
  all_goals
    go_enter Tryz.func153, Tryz.ntmps153
    go_wp2
    go_region_held3 (fun W => (∀ i, W.cell? ⟨w.heap.size, i, none⟩ = (#[.slice (some ⟨b, off, none⟩) ws.length cw, .int .i64 semi, .int .i64 toh, .int .i64 top, .bool cyc, .int .i64 scan, .int .i64 old, .int .i64 copied, .int .i64 serial, .slice ar rs.length cr] : Array Value)[i]?) ∧ (∀ i, W.cell? ⟨w.heap.size + 1, i, none⟩ = (#[.int .i64 t, .int .i64 m] : Array Value)[i]?)) (first | assumption | exact KP _ b1' | exact KP _ (by assumption) | exact KQ _ _ _ _ (by assumption)) (first | (go_at_call 192; refine (object_at _ _ _ _ _ _ _ _ _ _ _ _ _ _ _ t m P _ HP.out (HC _ b1').1 (HC _ b1').2 hn hw hP1).mono ?_; rintro e wo ⟨rfl, hb⟩; have hBo := below_next (w := (((w.alloc (.cells #[.slice (some ⟨b, off, none⟩) ws.length cw, .int .i64 semi, .int .i64 toh, .int .i64 top, .bool cyc, .int .i64 scan, .int .i64 old, .int .i64 copied, .int .i64 serial, .slice ar rs.length cr] 29)).alloc (.cells #[.int .i64 t, .int .i64 m] 60)).alloc (.cells #[.int .i64 0, .int .i64 0, .string ⟨#[]⟩] 174))) b1' hb; clear hb) | (go_at_call 171; refine (headAt_at _ _ _ _ _ _ _ _ _ _ _ _ _ _ _ P' _ HP'.out (ar_sl (HC _ hBo).1 (HC _ hBo).2) hn hw hP2).mono ?_; rintro e wt ⟨rfl, hb⟩; have hBt := below_next (w := (((w.alloc (.cells #[.slice (some ⟨b, off, none⟩) ws.length cw, .int .i64 semi, .int .i64 toh, .int .i64 top, .bool cyc, .int .i64 scan, .int .i64 old, .int .i64 copied, .int .i64 serial, .slice ar rs.length cr] 29)).alloc (.cells #[.int .i64 t, .int .i64 m] 60)).alloc (.cells #[.int .i64 0, .int .i64 0, .string ⟨#[]⟩] 174))) hBo hb; obtain ⟨_, _, kt⟩ := three_cells hBt; have ft : ∀ i, wt.frozen? ⟨w.heap.size + 1 + 1, i, none⟩ = false := fun i => (by rw [(bcell hBt).2 _ _ (by simp)]; simp [go_sem]); clear hb))
    all_goals
      go_wp2
      have p0 : (wt.cell? ⟨w.heap.size + 1 + 1, 0, none⟩).isSome = true := by rw [kt 0]; rfl
      have p1 : (wt.cell? ⟨w.heap.size + 1 + 1, 1, none⟩).isSome = true := by rw [kt 1]; rfl
      have p2 : (wt.cell? ⟨w.heap.size + 1 + 1, 2, none⟩).isSome = true := by rw [kt 2]; rfl
      refine bodyPost_ret (v := .agg #[.int .i64 t, .int .i64 (rdN (wordAt ws P')), .string ⟨#[]⟩]) (by simp [results, Tryz.results153, go_sem, p0, p1, p2]) rfl ⟨rfl, ?_⟩
      have hle : w.heap.size ≤ w.heap.size + 1 + 1 := by omega
      exact (((below_third hBt).setCell (p := ⟨w.heap.size + 1 + 1, 0, none⟩) hle _).setCell (p := ⟨w.heap.size + 1 + 1, 1, none⟩) hle _).setCell (p := ⟨w.heap.size + 1 + 1, 2, none⟩) hle _
end Go.Proofs.YtibjellhafndiaaGreatDoor

/- The program's keyOf, whole. -/
namespace Go.Proofs.YtibjellhafndiaaGreatDoor
set_option maxRecDepth 20000
open Go.RowKit
set_option linter.unusedSimpArgs false
set_option linter.unusedVariables false

theorem keyOf_at (b off cw : Nat) (ws : List Int) (semi toh top : Int) (cyc : Bool) (scan old copied serial : Int) (ar : Option Addr) (cr : Nat) (rs : List (Int × Int)) (t m : Int) (w : World) (hb : b < w.heap.size) (hc : ∀ i, i < ws.length → w.cell? ⟨b, off + i, none⟩ = some (.int .u64 (wordAt ws i))) (hn : ws.length ≤ 1048576) (hw : Words64 ws) (hk : KeyIn ws t m) :
    Calls Tryz.prog 153 #[(.agg #[.slice (some ⟨b, off, none⟩) ws.length cw, .int .i64 semi, .int .i64 toh, .int .i64 top, .bool cyc, .int .i64 scan, .int .i64 old, .int .i64 copied, .int .i64 serial, .slice ar rs.length cr]), .agg #[.int .i64 t, .int .i64 m]] w fun e w' => e = .returned (.agg #[.int .i64 t, .int .i64 (kyN ws t m), .string (kyS ws t m)]) ∧ Below w.heap.size w w' := by
  by_cases h3 : t = 3
  · obtain ⟨a0, a1, a2, a3⟩ := hk.1 (by simp [isR, h3])
    have e1 : kyN ws t m = 0 := by simp [kyN, h3]
    have e2 : kyS ws t m = txt ws (leadsAt ws m.toNat).toNat := by simp [kyS, h3]
    rw [e1, e2]
    exact keyOf_text b off cw ws semi toh top cyc scan old copied serial ar cr rs t m m.toNat (leadsAt ws m.toNat).toNat w (by simpa using h3) hb hc hn hw (by omega) (by omega) (by omega) (hk.2 h3)
  · have e3 : (t == 3) = false := by simpa using h3
    have e2 : kyS ws t m = ⟨#[]⟩ := by simp [kyS, h3]
    by_cases h456 : t = 4 ∨ t = 5 ∨ t = 6
    · obtain ⟨a0, a1, a2, a3⟩ := hk.1 (by simp only [isR, decide_eq_true_eq]; omega)
      have e1 : kyN ws t m = rdN (wordAt ws (leadsAt ws m.toNat).toNat) := by simp [kyN, h3, h456]
      rw [e1, e2]
      exact keyOf_born b off cw ws semi toh top cyc scan old copied serial ar cr rs t m m.toNat (leadsAt ws m.toNat).toNat w e3 (by rcases h456 with rfl | rfl | rfl <;> simp) hb hc hn hw (by omega) (by omega) (by omega) (by omega)
    · have e1 : kyN ws t m = m := by simp [kyN, h3, h456]
      rw [e1, e2]
      exact keyOf_else b off cw ws semi toh top cyc scan old copied serial ar cr rs t m w e3 (by simp; omega) (by simp; omega) (by simp; omega)
end Go.Proofs.YtibjellhafndiaaGreatDoor
