/- Roots: l2Root, hasRoot; MoveRoot of both packages. -/
import Derived.Test.YtaapiedminakcaaGreatProg
import Derived.Test.YtaapiedminakcaaGreatKLawD
import Derived.Test.YtaapiedminakcaaGreatKLookS
namespace Go.Proofs.YtaapiedminakcaaGreat
set_option maxRecDepth 20000
open Go.RowKit
set_option linter.unusedSimpArgs false
set_option linter.unusedVariables false

/-- A Root that is set. -/
def putY (y : Nat → Int) (r : Nat) (t n : Int) : Nat → Int := fun i => if i = 2 * r then t else if i = 2 * r + 1 then n else y i
theorem ownV_put {u t g M n c : Nat} {w : World} {fn : Nat → Value} {y : Nat → Int} {r : Nat} (hr : w.rowIs g 50 M fn) (hf : ∀ i, i < 2 * n → fn i = .int .i64 (y i)) (hu : u ≤ g) (ht : g < t) (hM : 2 * n ≤ M) (a b : Int) :
    OwnF u t 50 ((w.setCell ⟨g, r * 2, none⟩ (.int .i64 a)).setCell ⟨g, r * 2 + 1, none⟩ (.int .i64 b)) (.slice (some ⟨g, 0, none⟩) n c) n (2 * n) (fun i => .int .i64 (putY y r a b i)) := by
  refine ⟨_, _, rfl, .inr ⟨g, M, _, rfl, hu, ht, hM, (hr.set (r * 2) (.int .i64 a)).set (r * 2 + 1) (.int .i64 b), fun i hi => ?_⟩⟩
  by_cases e1 : i = r * 2 + 1
  · have e : putY y r a b i = b := by unfold putY; rw [if_neg (by omega), if_pos (by omega)]
    show _ = Value.int .i64 (putY y r a b i)
    rw [e]
    simp [e1]
  · by_cases e2 : i = r * 2
    · have e : putY y r a b i = a := by unfold putY; rw [if_pos (by omega)]
      show _ = Value.int .i64 (putY y r a b i)
      rw [e]
      simp [e2]
    · have e : putY y r a b i = y i := by unfold putY; rw [if_neg (by omega), if_neg (by omega)]
      show _ = Value.int .i64 (putY y r a b i)
      rw [e]
      simp [e1, e2, hf i hi]
theorem OwnF.drew {B T : Nat} {t : TypeId} {w : World} {v : Value} {n m : Nat} {f : Nat → Value} (h : OwnF B T t w v n m f) : OwnF B T t w.drew v n m f := h.block fun _ _ _ => rfl
set_option maxHeartbeats 2000000 in
theorem specMoveRoot_yes (aw : Option Addr) (cw : Nat) (ws : List Int) (semi toh top : Int) (cyc : Bool) (scan old copied serial : Int) (ar : Option Addr) (cr : Nat) (rs : List (Int × Int)) (r f : Nat) (y : Nat → Int) (Tr : Nat) (w : World) (hs : Sl w (.slice aw ws.length cw) ws) (hn : ws.length ≤ 1048576) (hw : Words64 ws) (hrt : SlF Tr w (.slice ar rs.length cr) rs.length (2 * rs.length) (fun i => .int .i64 (y i))) (hn2 : rs.length ≤ 1048576) (hok : ArOk ws semi toh top cyc scan old copied serial y rs.length) (hr : r < rs.length) (hf : f < rs.length) :
    Calls Tryz.prog 40 #[.agg #[.slice aw ws.length cw, .int .i64 semi, .int .i64 toh, .int .i64 top, .bool cyc, .int .i64 scan, .int .i64 old, .int .i64 copied, .int .i64 serial, .slice ar rs.length cr], .int .i64 r, .int .i64 f] w fun e w' => ∃ vw vr, e = .returned (.tuple #[.agg #[vw, .int .i64 semi, .int .i64 toh, .int .i64 top, .bool cyc, .int .i64 scan, .int .i64 old, .int .i64 copied, .int .i64 serial, vr], .bool true]) ∧ OwnAr w.heap.size w'.heap.size w' vw vr ws.length rs.length (wordAt ws) (putY y r (y (2 * f)) (y (2 * f + 1))) ∧ Below w.heap.size w w' := by
  have HS : Hid (Sl w (.slice aw ws.length cw) ws) := hs
  have HR : Hid (SlF w.heap.size w (.slice ar rs.length cr) rs.length (2 * rs.length) (fun i => .int .i64 (y i))) := hrt.here
  have HQ : Hid (ArOk ws semi toh top cyc scan old copied serial y rs.length) := hok
  clear hs hrt hok
  go_enter Tryz.func40, Tryz.ntmps40
  go_wp2_with fail
  refine (l2Copy_at _ _ _ _ _ _ _ _ _ _ _ _ _ _ y w.heap.size _ (HS.out.below (below_second (Below.refl _ _))) hn (HR.out.below (below_second (Below.refl _ _)) (Nat.le_refl _)) hn2).mono ?_
  rintro e w1 ⟨vw, vr, rfl, o1, b1⟩
  simp only [World.size_alloc] at o1
  obtain ⟨a1, c1, rfl⟩ := o1.sl.1.head
  obtain ⟨a2, c2, rfl⟩ := o1.sl.2.head
  have B1 := below_second b1
  have l1 := size_second b1
  have l0 : w.heap.size < w1.heap.size := by omega
  have k1 : ∀ i, w1.cell? ⟨w.heap.size, i, none⟩ = (#[.slice aw ws.length cw, .int .i64 semi, .int .i64 toh, .int .i64 top, .bool cyc, .int .i64 scan, .int .i64 old, .int .i64 copied, .int .i64 serial, .slice ar rs.length cr] : Array Value)[i]? := fun i => by rw [b1.cell (p := ⟨w.heap.size, i, none⟩) (by simp; omega)]; simp [go_sem]
  obtain ⟨_, hres⟩ := box_row2 (n := 10) b1 (by simp) rfl rfl
  have HZ : Hid (w1.rowIs (w.heap.size + 1) 30 10 (fun i => (#[.slice none 0 0, .int .i64 0, .int .i64 0, .int .i64 0, .bool false, .int .i64 0, .int .i64 0, .int .i64 0, .int .i64 0, .slice none 0 0] : Array Value).getD i (.bool false))) := hres
  clear b1 hres
  go_wp2_with fail
  refine (specArenaOk_at _ _ _ _ _ _ _ _ _ _ _ _ _ _ y w.heap.size _ (HS.out.below (below_box B1)) hn hw (HR.out.below (below_box B1) (Nat.le_refl _)) hn2).mono ?_
  rintro e w2 ⟨q, rfl, hq, b2⟩
  obtain rfl := hq.2 HQ.out
  have b2f := below_first b2
  have B2 := below_next B1 b2f
  have k2 := has_below k1 b2f l0
  have p2 := one_cells b2 (by simp)
  have z2 : w1.heap.size < w2.heap.size := size_first b2
  have o2 := o1.below b2f (Nat.le_refl _)
  have HZ2 := HZ.out.of_block (b2f.block _ (by omega))
  clear k1 b2 b2f o1 HZ hq B1
  go_wp2_with fail
  refine (l2Root_any _ _ _ _ _ _ _ _ _ _ _ _ _ _ _ _ hn2).mono ?_
  rintro e w3 ⟨rfl, b3⟩
  rw [show hasR (r : Int) rs.length = true from decide_eq_true ⟨by omega, by omega⟩]
  have B3 := below_next B2 b3
  have k3 := has_below k2 b3 (by omega)
  have p3 := has_below p2 b3 z2
  have z3 : w1.heap.size < w3.heap.size := Nat.lt_of_lt_of_le z2 b3.size
  have o3 := o2.below b3 (by omega)
  have HZ3 := HZ2.of_block (b3.block _ (by omega))
  clear k2 p2 b3 o2 HZ2 B2
  go_wp2_with fail
  refine (l2Root_any _ _ _ _ _ _ _ _ _ _ _ _ _ _ _ _ hn2).mono ?_
  rintro e w4 ⟨rfl, b4⟩
  rw [show hasR (f : Int) rs.length = true from decide_eq_true ⟨by omega, by omega⟩]
  have B4 := below_next B3 b4
  have k4 := has_below k3 b4 (by omega)
  have p4 := has_below p3 b4 z3
  have z4 : w1.heap.size < w4.heap.size := Nat.lt_of_lt_of_le z3 b4.size
  have o4 := o3.below b4 (by omega)
  have HZ4 := HZ3.of_block (b4.block _ (by omega))
  clear k3 p3 b4 o3 HZ3 B3
  obtain ⟨u1, t1, u2, t2, h1, h2, h3, h4, h5, h6, h7⟩ := o4
  obtain ⟨a2', c2', he, h7⟩ := h7
  simp only [Value.slice.injEq] at he
  obtain ⟨rfl, _, rfl⟩ := he
  rcases h7 with h7 | ⟨g, M, fn, rfl, hg1, hg2, hM, hrow, hfn⟩
  · omega
  have x0 : w4.cell? ⟨g, r * 2, none⟩ = some (.int .i64 (y (2 * r))) := by rw [hrow.cell (by omega), hfn _ (by omega), Nat.mul_comm]
  have x1 : w4.cell? ⟨g, r * 2 + 1, none⟩ = some (.int .i64 (y (2 * r + 1))) := by rw [hrow.cell (by omega), hfn _ (by omega), Nat.mul_comm]
  have y0 : w4.cell? ⟨g, f * 2, none⟩ = some (.int .i64 (y (2 * f))) := by rw [hrow.cell (by omega), hfn _ (by omega), Nat.mul_comm]
  have y1 : w4.cell? ⟨g, f * 2 + 1, none⟩ = some (.int .i64 (y (2 * f + 1))) := by rw [hrow.cell (by omega), hfn _ (by omega), Nat.mul_comm]
  have ff := hrow.frozen
  have hr' : (r : Int) < (rs.length : Int) := by omega
  have hf' : (f : Int) < (rs.length : Int) := by omega
  go_wp2_with fail
  obtain ⟨d0, d1, d2, d3, d4, d5, d6, d7, d8, d9⟩ := row10 HZ4 rfl rfl rfl rfl rfl rfl rfl rfl rfl rfl
  simp at d0 d1 d2 d3 d4 d5 d6 d7 d8 d9
  have e4 := HZ4.frozen
  have n1 : g ≠ w.heap.size + 1 := by omega
  have n2 : w.heap.size + 1 ≠ g := by omega
  have n3 : g ≠ w1.heap.size := by omega
  have n4 : w1.heap.size ≠ g := by omega
  have HRW : Hid (w4.rowIs g 50 M fn) := hrow
  have HFN : Hid (∀ i, i < 2 * rs.length → fn i = .int .i64 (y i)) := hfn
  have HOW : Hid (OwnF u1 t1 93 w4 (.slice a1 ws.length c1) ws.length ws.length (fun i => .int .u64 (wordAt ws i))) := h6
  have HB4 : Hid (Below w.heap.size w w4) := B4
  have HN : Hid (w.heap.size + 1 + 1 ≤ u1 ∧ t1 ≤ w1.heap.size ∧ w.heap.size + 1 + 1 ≤ u2 ∧ t2 ≤ w1.heap.size ∧ (t1 ≤ u2 ∨ t2 ≤ u1) ∧ u2 ≤ g ∧ g < t2 ∧ 2 * rs.length ≤ M ∧ w1.heap.size < w4.heap.size) := ⟨h1, h2, h3, h4, h5, hg1, hg2, hM, z4⟩
  clear h1 h2 h3 h4 h5 h6 hg1 hg2 hM hrow hfn HZ4 B4
  go_region
  all_goals
    go_wp2
    have p0 : (w4.cell? ⟨w.heap.size + 1, 0, none⟩).isSome = true := by rw [d0]; rfl
    have p1 : (w4.cell? ⟨w.heap.size + 1, 1, none⟩).isSome = true := by rw [d1]; rfl
    have p2 : (w4.cell? ⟨w.heap.size + 1, 2, none⟩).isSome = true := by rw [d2]; rfl
    have p3 : (w4.cell? ⟨w.heap.size + 1, 3, none⟩).isSome = true := by rw [d3]; rfl
    have p4 : (w4.cell? ⟨w.heap.size + 1, 4, none⟩).isSome = true := by rw [d4]; rfl
    have p5 : (w4.cell? ⟨w.heap.size + 1, 5, none⟩).isSome = true := by rw [d5]; rfl
    have p6 : (w4.cell? ⟨w.heap.size + 1, 6, none⟩).isSome = true := by rw [d6]; rfl
    have p7 : (w4.cell? ⟨w.heap.size + 1, 7, none⟩).isSome = true := by rw [d7]; rfl
    have p8 : (w4.cell? ⟨w.heap.size + 1, 8, none⟩).isSome = true := by rw [d8]; rfl
    have p9 : (w4.cell? ⟨w.heap.size + 1, 9, none⟩).isSome = true := by rw [d9]; rfl
    refine bodyPost_ret (v := .tuple #[.agg #[.slice a1 ws.length c1, .int .i64 semi, .int .i64 toh, .int .i64 top, .bool cyc, .int .i64 scan, .int .i64 old, .int .i64 copied, .int .i64 serial, .slice (some ⟨g, 0, none⟩) rs.length c2], .bool true]) (by simp [results, Tryz.results40, go_sem, p0, p1, p2, p3, p4, p5, p6, p7, p8, p9, n1, n2, n3, n4]) rfl ⟨_, _, rfl, ?_, ?_⟩
    · obtain ⟨h1, h2, h3, h4, h5, hg1, hg2, hM, z5⟩ := HN.out
      refine ⟨u1, t1, u2, t2, by omega, by simp; omega, by omega, by simp; omega, h5, ?_, ?_⟩
      · refine OwnF.drew (own_ten (k := w.heap.size + 1) (HOW.out.block (w' := (w4.setCell ⟨g, r * 2, none⟩ (.int .i64 (y (2 * f)))).setCell ⟨g, r * 2 + 1, none⟩ (.int .i64 (y (2 * f + 1)))) fun k hk hk' => ?_) (by omega))
        rw [Below.heap_setCell _ _ _ _ (by show k ≠ g; omega), Below.heap_setCell _ _ _ _ (by show k ≠ g; omega)]
      · exact OwnF.drew (own_ten (k := w.heap.size + 1) (ownV_put HRW.out HFN.out hg1 hg2 hM _ _) (by omega))
    · obtain ⟨h1, h2, h3, h4, h5, hg1, hg2, hM, z5⟩ := HN.out
      exact (below_ten ((HB4.out.setCell (p := ⟨g, r * 2, none⟩) (by show w.heap.size ≤ g; omega) _).setCell (p := ⟨g, r * 2 + 1, none⟩) (by show w.heap.size ≤ g; omega) _) (Nat.le_succ _)).drew
set_option maxHeartbeats 2000000 in
theorem implMoveRoot_yes (aw : Option Addr) (cw : Nat) (ws : List Int) (semi toh top : Int) (cyc : Bool) (scan old copied serial : Int) (ar : Option Addr) (cr : Nat) (rs : List (Int × Int)) (r f : Nat) (y : Nat → Int) (Tr : Nat) (w : World) (hs : Sl w (.slice aw ws.length cw) ws) (hcw : ws.length ≤ cw) (hn : ws.length ≤ 1048576) (hw : Words64 ws) (hrt : SlF Tr w (.slice ar rs.length cr) rs.length (2 * rs.length) (fun i => .int .i64 (y i))) (hn2 : rs.length ≤ 1048576) (hok : ArOk ws semi toh top cyc scan old copied serial y rs.length) (hr : r < rs.length) (hf : f < rs.length) :
    Calls Tryz.prog 41 #[.agg #[.slice aw ws.length cw, .int .i64 semi, .int .i64 toh, .int .i64 top, .bool cyc, .int .i64 scan, .int .i64 old, .int .i64 copied, .int .i64 serial, .slice ar rs.length cr], .int .i64 r, .int .i64 f] w fun e w' => ∃ vw vr, e = .returned (.tuple #[.agg #[vw, .int .i64 semi, .int .i64 toh, .int .i64 top, .bool cyc, .int .i64 scan, .int .i64 old, .int .i64 copied, .int .i64 serial, vr], .bool true]) ∧ OwnAr w.heap.size w'.heap.size w' vw vr ws.length rs.length (wordAt ws) (putY y r (y (2 * f)) (y (2 * f + 1))) ∧ Below w.heap.size w w' := by
  have HS : Hid (Sl w (.slice aw ws.length cw) ws) := hs
  have HR : Hid (SlF w.heap.size w (.slice ar rs.length cr) rs.length (2 * rs.length) (fun i => .int .i64 (y i))) := hrt.here
  have HQ : Hid (ArOk ws semi toh top cyc scan old copied serial y rs.length) := hok
  clear hs hrt hok
  go_enter Tryz.func41, Tryz.ntmps41
  go_wp2_with fail
  refine (clone_at _ _ _ _ _ _ _ _ _ _ _ _ _ _ y w.heap.size _ (HS.out.below (below_second (Below.refl _ _))) hn (HR.out.below (below_second (Below.refl _ _)) (Nat.le_refl _)) hn2).mono ?_
  rintro e w1 ⟨vw, vr, rfl, o1, b1⟩
  simp only [World.size_alloc] at o1
  obtain ⟨a1, c1, rfl⟩ := o1.sl.1.head
  obtain ⟨a2, c2, rfl⟩ := o1.sl.2.head
  have B1 := below_second b1
  have l1 := size_second b1
  have l0 : w.heap.size < w1.heap.size := by omega
  have k1 : ∀ i, w1.cell? ⟨w.heap.size, i, none⟩ = (#[.slice aw ws.length cw, .int .i64 semi, .int .i64 toh, .int .i64 top, .bool cyc, .int .i64 scan, .int .i64 old, .int .i64 copied, .int .i64 serial, .slice ar rs.length cr] : Array Value)[i]? := fun i => by rw [b1.cell (p := ⟨w.heap.size, i, none⟩) (by simp; omega)]; simp [go_sem]
  obtain ⟨_, hres⟩ := box_row2 (n := 10) b1 (by simp) rfl rfl
  have HZ : Hid (w1.rowIs (w.heap.size + 1) 30 10 (fun i => (#[.slice none 0 0, .int .i64 0, .int .i64 0, .int .i64 0, .bool false, .int .i64 0, .int .i64 0, .int .i64 0, .int .i64 0, .slice none 0 0] : Array Value).getD i (.bool false))) := hres
  clear b1 hres
  go_wp2_with fail
  refine (implArenaOk_at _ _ _ _ _ _ _ _ _ _ _ _ _ _ y w.heap.size _ (HS.out.below (below_box B1)) hcw hn hw (HR.out.below (below_box B1) (Nat.le_refl _)) hn2).mono ?_
  rintro e w2 ⟨q, rfl, hq, b2⟩
  obtain rfl := hq.2 HQ.out
  have b2f := below_first b2
  have B2 := below_next B1 b2f
  have k2 := has_below k1 b2f l0
  have p2 := one_cells b2 (by simp)
  have z2 : w1.heap.size < w2.heap.size := size_first b2
  have o2 := o1.below b2f (Nat.le_refl _)
  have HZ2 := HZ.out.of_block (b2f.block _ (by omega))
  clear k1 b2 b2f o1 HZ hq B1
  go_wp2_with fail
  refine (hasRoot_any _ _ _ _ _ _ _ _ _ _ _ _ _ _ _ _ hn2).mono ?_
  rintro e w3 ⟨rfl, b3⟩
  rw [show hasR (r : Int) rs.length = true from decide_eq_true ⟨by omega, by omega⟩]
  have B3 := below_next B2 b3
  have k3 := has_below k2 b3 (by omega)
  have p3 := has_below p2 b3 z2
  have z3 : w1.heap.size < w3.heap.size := Nat.lt_of_lt_of_le z2 b3.size
  have o3 := o2.below b3 (by omega)
  have HZ3 := HZ2.of_block (b3.block _ (by omega))
  clear k2 p2 b3 o2 HZ2 B2
  go_wp2_with fail
  refine (hasRoot_any _ _ _ _ _ _ _ _ _ _ _ _ _ _ _ _ hn2).mono ?_
  rintro e w4 ⟨rfl, b4⟩
  rw [show hasR (f : Int) rs.length = true from decide_eq_true ⟨by omega, by omega⟩]
  have B4 := below_next B3 b4
  have k4 := has_below k3 b4 (by omega)
  have p4 := has_below p3 b4 z3
  have z4 : w1.heap.size < w4.heap.size := Nat.lt_of_lt_of_le z3 b4.size
  have o4 := o3.below b4 (by omega)
  have HZ4 := HZ3.of_block (b4.block _ (by omega))
  clear k3 p3 b4 o3 HZ3 B3
  obtain ⟨u1, t1, u2, t2, h1, h2, h3, h4, h5, h6, h7⟩ := o4
  obtain ⟨a2', c2', he, h7⟩ := h7
  simp only [Value.slice.injEq] at he
  obtain ⟨rfl, _, rfl⟩ := he
  rcases h7 with h7 | ⟨g, M, fn, rfl, hg1, hg2, hM, hrow, hfn⟩
  · omega
  have x0 : w4.cell? ⟨g, r * 2, none⟩ = some (.int .i64 (y (2 * r))) := by rw [hrow.cell (by omega), hfn _ (by omega), Nat.mul_comm]
  have x1 : w4.cell? ⟨g, r * 2 + 1, none⟩ = some (.int .i64 (y (2 * r + 1))) := by rw [hrow.cell (by omega), hfn _ (by omega), Nat.mul_comm]
  obtain ⟨br, offr, cap', hv, _, lbr, hcr⟩ := HR.out.parts (k := 0) (by omega)
  simp only [Value.slice.injEq] at hv
  obtain ⟨rfl, _, rfl⟩ := hv
  have y0 : w4.cell? ⟨br, offr + f * 2, none⟩ = some (.int .i64 (y (2 * f))) := by rw [B4.cell (p := ⟨br, offr + f * 2, none⟩) lbr, Nat.mul_comm]; exact hcr (2 * f) (by omega)
  have y1 : w4.cell? ⟨br, offr + f * 2 + 1, none⟩ = some (.int .i64 (y (2 * f + 1))) := by rw [B4.cell (p := ⟨br, offr + f * 2 + 1, none⟩) lbr, Nat.mul_comm]; exact hcr (2 * f + 1) (by omega)
  clear hcr
  have ff := hrow.frozen
  have hr' : (r : Int) < (rs.length : Int) := by omega
  have hf' : (f : Int) < (rs.length : Int) := by omega
  go_wp2_with fail
  obtain ⟨d0, d1, d2, d3, d4, d5, d6, d7, d8, d9⟩ := row10 HZ4 rfl rfl rfl rfl rfl rfl rfl rfl rfl rfl
  simp at d0 d1 d2 d3 d4 d5 d6 d7 d8 d9
  have e4 := HZ4.frozen
  have n1 : g ≠ w.heap.size + 1 := by omega
  have n2 : w.heap.size + 1 ≠ g := by omega
  have n3 : g ≠ w1.heap.size := by omega
  have n4 : w1.heap.size ≠ g := by omega
  have HRW : Hid (w4.rowIs g 50 M fn) := hrow
  have HFN : Hid (∀ i, i < 2 * rs.length → fn i = .int .i64 (y i)) := hfn
  have HOW : Hid (OwnF u1 t1 93 w4 (.slice a1 ws.length c1) ws.length ws.length (fun i => .int .u64 (wordAt ws i))) := h6
  have HB4 : Hid (Below w.heap.size w w4) := B4
  have HN : Hid (w.heap.size + 1 + 1 ≤ u1 ∧ t1 ≤ w1.heap.size ∧ w.heap.size + 1 + 1 ≤ u2 ∧ t2 ≤ w1.heap.size ∧ (t1 ≤ u2 ∨ t2 ≤ u1) ∧ u2 ≤ g ∧ g < t2 ∧ 2 * rs.length ≤ M ∧ w1.heap.size < w4.heap.size) := ⟨h1, h2, h3, h4, h5, hg1, hg2, hM, z4⟩
  clear h1 h2 h3 h4 h5 h6 hg1 hg2 hM hrow hfn HZ4 B4
  go_region
  all_goals
    go_wp2
    have p0 : (w4.cell? ⟨w.heap.size + 1, 0, none⟩).isSome = true := by rw [d0]; rfl
    have p1 : (w4.cell? ⟨w.heap.size + 1, 1, none⟩).isSome = true := by rw [d1]; rfl
    have p2 : (w4.cell? ⟨w.heap.size + 1, 2, none⟩).isSome = true := by rw [d2]; rfl
    have p3 : (w4.cell? ⟨w.heap.size + 1, 3, none⟩).isSome = true := by rw [d3]; rfl
    have p4 : (w4.cell? ⟨w.heap.size + 1, 4, none⟩).isSome = true := by rw [d4]; rfl
    have p5 : (w4.cell? ⟨w.heap.size + 1, 5, none⟩).isSome = true := by rw [d5]; rfl
    have p6 : (w4.cell? ⟨w.heap.size + 1, 6, none⟩).isSome = true := by rw [d6]; rfl
    have p7 : (w4.cell? ⟨w.heap.size + 1, 7, none⟩).isSome = true := by rw [d7]; rfl
    have p8 : (w4.cell? ⟨w.heap.size + 1, 8, none⟩).isSome = true := by rw [d8]; rfl
    have p9 : (w4.cell? ⟨w.heap.size + 1, 9, none⟩).isSome = true := by rw [d9]; rfl
    refine bodyPost_ret (v := .tuple #[.agg #[.slice a1 ws.length c1, .int .i64 semi, .int .i64 toh, .int .i64 top, .bool cyc, .int .i64 scan, .int .i64 old, .int .i64 copied, .int .i64 serial, .slice (some ⟨g, 0, none⟩) rs.length c2], .bool true]) (by simp [results, Tryz.results41, go_sem, p0, p1, p2, p3, p4, p5, p6, p7, p8, p9, n1, n2, n3, n4]) rfl ⟨_, _, rfl, ?_, ?_⟩
    · obtain ⟨h1, h2, h3, h4, h5, hg1, hg2, hM, z5⟩ := HN.out
      refine ⟨u1, t1, u2, t2, by omega, by simp; omega, by omega, by simp; omega, h5, ?_, ?_⟩
      · refine OwnF.drew (own_ten (k := w.heap.size + 1) (HOW.out.block (w' := (w4.setCell ⟨g, r * 2, none⟩ (.int .i64 (y (2 * f)))).setCell ⟨g, r * 2 + 1, none⟩ (.int .i64 (y (2 * f + 1)))) fun k hk hk' => ?_) (by omega))
        rw [Below.heap_setCell _ _ _ _ (by show k ≠ g; omega), Below.heap_setCell _ _ _ _ (by show k ≠ g; omega)]
      · exact OwnF.drew (own_ten (k := w.heap.size + 1) (ownV_put HRW.out HFN.out hg1 hg2 hM _ _) (by omega))
    · obtain ⟨h1, h2, h3, h4, h5, hg1, hg2, hM, z5⟩ := HN.out
      exact (below_ten ((HB4.out.setCell (p := ⟨g, r * 2, none⟩) (by show w.heap.size ≤ g; omega) _).setCell (p := ⟨g, r * 2 + 1, none⟩) (by show w.heap.size ≤ g; omega) _) (Nat.le_succ _)).drew
end Go.Proofs.YtaapiedminakcaaGreat
