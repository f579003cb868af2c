/- SetRoot of both packages. -/
import Derived.Test.YtaapiedminakcaaGreatProg
import Derived.Test.YtaapiedminakcaaGreatKMoveA
namespace Go.Proofs.YtaapiedminakcaaGreat
set_option maxRecDepth 20000
open Go.RowKit
set_option linter.unusedSimpArgs false
set_option linter.unusedVariables false

theorem size_third {w w' : World} {o o2 o3 : Obj} (hb : Below (((w.alloc o).alloc o2).alloc o3).heap.size (((w.alloc o).alloc o2).alloc o3) w') : w.heap.size + 1 + 1 < w'.heap.size := by
  have h := hb.size
  simp at h
  omega
theorem box_row3 {w w' : World} {o o2 : Obj} {Z : Array Value} {u : TypeId} {C n : Nat} (hB : Below C (((w.alloc o).alloc o2).alloc (.cells Z u)) w') (hC : w.heap.size + 1 + 1 < C) (hZ : Z.size = n) :
    w'.rowIs (w.heap.size + 1 + 1) u n (fun i => Z.getD i (.bool false)) :=
  ⟨Z, (hB.block _ hC).trans (alloc_at (by simp)), hZ, fun i hi => by simp [Array.getD, show i < Z.size by omega]⟩
set_option maxHeartbeats 2000000 in
theorem specSetRoot_no0 (aw : Option Addr) (cw : Nat) (ws : List Int) (semi toh top : Int) (cyc : Bool) (scan old copied serial : Int) (ar : Option Addr) (cr : Nat) (rs : List (Int × Int)) (r t m : Int) (y : Nat → Int) (Tr : Nat) (w : World) (hs : Sl w (.slice aw ws.length cw) ws) (hn : ws.length ≤ 1048576) (hw : Words64 ws) (hrt : SlF Tr w (.slice ar rs.length cr) rs.length (2 * rs.length) (fun i => .int .i64 (y i))) (hn2 : rs.length ≤ 1048576) (hok : ¬ ArOk ws semi toh top cyc scan old copied serial y rs.length) :
    Calls Tryz.prog 36 #[.agg #[.slice aw ws.length cw, .int .i64 semi, .int .i64 toh, .int .i64 top, .bool cyc, .int .i64 scan, .int .i64 old, .int .i64 copied, .int .i64 serial, .slice ar rs.length cr], .int .i64 r, .agg #[.int .i64 t, .int .i64 m]] w fun e w' => ∃ vw vr, e = .returned (.tuple #[.agg #[vw, .int .i64 semi, .int .i64 toh, .int .i64 top, .bool cyc, .int .i64 scan, .int .i64 old, .int .i64 copied, .int .i64 serial, vr], .bool false]) ∧ OwnAr w.heap.size w'.heap.size w' vw vr ws.length rs.length (wordAt ws) (y) ∧ Below w.heap.size w w' := by
  have HS : Hid (Sl w (.slice aw ws.length cw) ws) := hs
  have HR : Hid (SlF w.heap.size w (.slice ar rs.length cr) rs.length (2 * rs.length) (fun i => .int .i64 (y i))) := hrt.here
  have HQ : Hid (¬ ArOk ws semi toh top cyc scan old copied serial y rs.length) := hok
  clear hs hrt hok
  go_enter Tryz.func36, Tryz.ntmps36
  go_wp2_with fail
  refine (l2Copy_at _ _ _ _ _ _ _ _ _ _ _ _ _ _ y w.heap.size _ (HS.out.below (below_third (Below.refl _ _))) hn (HR.out.below (below_third (Below.refl _ _)) (Nat.le_refl _)) hn2).mono ?_
  rintro e w1 ⟨vw, vr, rfl, o1, b1⟩
  simp only [World.size_alloc] at o1
  obtain ⟨a1, c1, rfl⟩ := o1.sl.1.head
  obtain ⟨a2, c2, rfl⟩ := o1.sl.2.head
  have B1 := below_third b1
  have l1 : w.heap.size + 1 + 1 < w1.heap.size := by have := b1.size; simp at this; omega
  have l0 : w.heap.size < w1.heap.size := by omega
  have k1 : ∀ i, w1.cell? ⟨w.heap.size, i, none⟩ = (#[.slice aw ws.length cw, .int .i64 semi, .int .i64 toh, .int .i64 top, .bool cyc, .int .i64 scan, .int .i64 old, .int .i64 copied, .int .i64 serial, .slice ar rs.length cr] : Array Value)[i]? := fun i => by rw [b1.cell (p := ⟨w.heap.size, i, none⟩) (by simp <;> omega)]; simp [go_sem]
  have l2 : w.heap.size + 1 < w1.heap.size := by omega
  have v1 : ∀ i, w1.cell? ⟨w.heap.size + 1, i, none⟩ = (#[.int .i64 t, .int .i64 m] : Array Value)[i]? := fun i => by rw [b1.cell (p := ⟨w.heap.size + 1, i, none⟩) (by simp <;> omega)]; simp [go_sem]
  have hres := box_row3 (n := 10) b1 (by simp) rfl
  have Z1 : w1.rowIs (w.heap.size + 1 + 1) 30 10 (fun i => (#[.slice none 0 0, .int .i64 0, .int .i64 0, .int .i64 0, .bool false, .int .i64 0, .int .i64 0, .int .i64 0, .int .i64 0, .slice none 0 0] : Array Value).getD i (.bool false)) := hres
  have HZ1 : Hid _ := Z1
  clear b1 hres Z1
  go_wp2_with fail
  refine (specArenaOk_at _ _ _ _ _ _ _ _ _ _ _ _ _ _ y w.heap.size _ (HS.out.below (below_box B1)) hn hw (HR.out.below (below_box B1) (Nat.le_refl _)) hn2).mono ?_
  rintro e w2 ⟨q, rfl, hq, b2⟩
  obtain rfl : q = false := by
    cases q with
    | false => rfl
    | true => exact absurd (hq.1 rfl) HQ.out
  have b2f := below_first b2
  have p2 := one_cells b2 (by simp)
  have z2 : w1.heap.size < w2.heap.size := size_first b2
  have B2 := below_next B1 b2f
  have k2 := has_below k1 b2f (by omega)
  have v2 := has_below v1 b2f (by omega)
  have o2 := o1.below b2f (by omega)
  have HZ2 : Hid (w2.rowIs (w.heap.size + 1 + 1) 30 10 (fun i => (#[.slice none 0 0, .int .i64 0, .int .i64 0, .int .i64 0, .bool false, .int .i64 0, .int .i64 0, .int .i64 0, .int .i64 0, .slice none 0 0] : Array Value).getD i (.bool false))) := World.rowIs.of_block HZ1.out (b2f.block _ (by omega))
  clear k1 b2 b2f o1 HZ1 hq B1 v1
  obtain ⟨d0, d1, d2, d3, d4, d5, d6, d7, d8, d9⟩ := row10 HZ2.out rfl rfl rfl rfl rfl rfl rfl rfl rfl rfl
  simp at d0 d1 d2 d3 d4 d5 d6 d7 d8 d9
  have ef := World.rowIs.frozen HZ2.out
  have HO : Hid (OwnAr (w.heap.size + 1 + 1 + 1) w1.heap.size w2 (.slice a1 ws.length c1) (.slice a2 rs.length c2) ws.length rs.length (wordAt ws) y) := o2
  have HB : Hid (Below w.heap.size w w2) := B2
  clear o2 B2 HZ2
  go_wp2
  have q0 : (w2.cell? ⟨w.heap.size + 1 + 1, 0, none⟩).isSome = true := by rw [d0]; rfl
  have q1 : (w2.cell? ⟨w.heap.size + 1 + 1, 1, none⟩).isSome = true := by rw [d1]; rfl
  have q2 : (w2.cell? ⟨w.heap.size + 1 + 1, 2, none⟩).isSome = true := by rw [d2]; rfl
  have q3 : (w2.cell? ⟨w.heap.size + 1 + 1, 3, none⟩).isSome = true := by rw [d3]; rfl
  have q4 : (w2.cell? ⟨w.heap.size + 1 + 1, 4, none⟩).isSome = true := by rw [d4]; rfl
  have q5 : (w2.cell? ⟨w.heap.size + 1 + 1, 5, none⟩).isSome = true := by rw [d5]; rfl
  have q6 : (w2.cell? ⟨w.heap.size + 1 + 1, 6, none⟩).isSome = true := by rw [d6]; rfl
  have q7 : (w2.cell? ⟨w.heap.size + 1 + 1, 7, none⟩).isSome = true := by rw [d7]; rfl
  have q8 : (w2.cell? ⟨w.heap.size + 1 + 1, 8, none⟩).isSome = true := by rw [d8]; rfl
  have q9 : (w2.cell? ⟨w.heap.size + 1 + 1, 9, none⟩).isSome = true := by rw [d9]; rfl
  refine bodyPost_ret (v := .tuple #[.agg #[.slice a1 ws.length c1, .int .i64 semi, .int .i64 toh, .int .i64 top, .bool cyc, .int .i64 scan, .int .i64 old, .int .i64 copied, .int .i64 serial, .slice a2 rs.length c2], .bool false]) (by simp [results, Tryz.results36, go_sem, q0, q1, q2, q3, q4, q5, q6, q7, q8, q9]) rfl ⟨_, _, rfl, ?_, ?_⟩
  · obtain ⟨u1, t1, u2, t2, h1, h2, h3, h4, h5, h6, h7⟩ := HO.out
    exact ⟨u1, t1, u2, t2, by omega, by simp; omega, by omega, by simp; omega, h5, own_ten h6 (by omega), own_ten h7 (by omega)⟩
  · exact below_ten HB.out (by omega)
set_option maxHeartbeats 2000000 in
theorem specSetRoot_no1 (aw : Option Addr) (cw : Nat) (ws : List Int) (semi toh top : Int) (cyc : Bool) (scan old copied serial : Int) (ar : Option Addr) (cr : Nat) (rs : List (Int × Int)) (r t m : Int) (y : Nat → Int) (Tr : Nat) (w : World) (hs : Sl w (.slice aw ws.length cw) ws) (hn : ws.length ≤ 1048576) (hw : Words64 ws) (hrt : SlF Tr w (.slice ar rs.length cr) rs.length (2 * rs.length) (fun i => .int .i64 (y i))) (hn2 : rs.length ≤ 1048576) (hok : ArOk ws semi toh top cyc scan old copied serial y rs.length) (hr : hasR r rs.length = false) :
    Calls Tryz.prog 36 #[.agg #[.slice aw ws.length cw, .int .i64 semi, .int .i64 toh, .int .i64 top, .bool cyc, .int .i64 scan, .int .i64 old, .int .i64 copied, .int .i64 serial, .slice ar rs.length cr], .int .i64 r, .agg #[.int .i64 t, .int .i64 m]] w fun e w' => ∃ vw vr, e = .returned (.tuple #[.agg #[vw, .int .i64 semi, .int .i64 toh, .int .i64 top, .bool cyc, .int .i64 scan, .int .i64 old, .int .i64 copied, .int .i64 serial, vr], .bool false]) ∧ OwnAr w.heap.size w'.heap.size w' vw vr ws.length rs.length (wordAt ws) (y) ∧ Below w.heap.size w w' := by
  have HS : Hid (Sl w (.slice aw ws.length cw) ws) := hs
  have HR : Hid (SlF w.heap.size w (.slice ar rs.length cr) rs.length (2 * rs.length) (fun i => .int .i64 (y i))) := hrt.here
  have HQ : Hid (ArOk ws semi toh top cyc scan old copied serial y rs.length) := hok
  clear hs hrt hok
  go_enter Tryz.func36, Tryz.ntmps36
  go_wp2_with fail
  refine (l2Copy_at _ _ _ _ _ _ _ _ _ _ _ _ _ _ y w.heap.size _ (HS.out.below (below_third (Below.refl _ _))) hn (HR.out.below (below_third (Below.refl _ _)) (Nat.le_refl _)) hn2).mono ?_
  rintro e w1 ⟨vw, vr, rfl, o1, b1⟩
  simp only [World.size_alloc] at o1
  obtain ⟨a1, c1, rfl⟩ := o1.sl.1.head
  obtain ⟨a2, c2, rfl⟩ := o1.sl.2.head
  have B1 := below_third b1
  have l1 : w.heap.size + 1 + 1 < w1.heap.size := by have := b1.size; simp at this; omega
  have l0 : w.heap.size < w1.heap.size := by omega
  have k1 : ∀ i, w1.cell? ⟨w.heap.size, i, none⟩ = (#[.slice aw ws.length cw, .int .i64 semi, .int .i64 toh, .int .i64 top, .bool cyc, .int .i64 scan, .int .i64 old, .int .i64 copied, .int .i64 serial, .slice ar rs.length cr] : Array Value)[i]? := fun i => by rw [b1.cell (p := ⟨w.heap.size, i, none⟩) (by simp <;> omega)]; simp [go_sem]
  have l2 : w.heap.size + 1 < w1.heap.size := by omega
  have v1 : ∀ i, w1.cell? ⟨w.heap.size + 1, i, none⟩ = (#[.int .i64 t, .int .i64 m] : Array Value)[i]? := fun i => by rw [b1.cell (p := ⟨w.heap.size + 1, i, none⟩) (by simp <;> omega)]; simp [go_sem]
  have hres := box_row3 (n := 10) b1 (by simp) rfl
  have Z1 : w1.rowIs (w.heap.size + 1 + 1) 30 10 (fun i => (#[.slice none 0 0, .int .i64 0, .int .i64 0, .int .i64 0, .bool false, .int .i64 0, .int .i64 0, .int .i64 0, .int .i64 0, .slice none 0 0] : Array Value).getD i (.bool false)) := hres
  have HZ1 : Hid _ := Z1
  clear b1 hres Z1
  go_wp2_with fail
  refine (specArenaOk_at _ _ _ _ _ _ _ _ _ _ _ _ _ _ y w.heap.size _ (HS.out.below (below_box B1)) hn hw (HR.out.below (below_box B1) (Nat.le_refl _)) hn2).mono ?_
  rintro e w2 ⟨q, rfl, hq, b2⟩
  obtain rfl := hq.2 HQ.out
  have b2f := below_first b2
  have p2 := one_cells b2 (by simp)
  have z2 : w1.heap.size < w2.heap.size := size_first b2
  have B2 := below_next B1 b2f
  have k2 := has_below k1 b2f (by omega)
  have v2 := has_below v1 b2f (by omega)
  have o2 := o1.below b2f (by omega)
  have HZ2 : Hid (w2.rowIs (w.heap.size + 1 + 1) 30 10 (fun i => (#[.slice none 0 0, .int .i64 0, .int .i64 0, .int .i64 0, .bool false, .int .i64 0, .int .i64 0, .int .i64 0, .int .i64 0, .slice none 0 0] : Array Value).getD i (.bool false))) := World.rowIs.of_block HZ1.out (b2f.block _ (by omega))
  clear k1 b2 b2f o1 HZ1 hq B1 v1
  go_wp2_with fail
  refine (l2Root_any _ _ _ _ _ _ _ _ _ _ _ _ _ _ _ _ hn2).mono ?_
  rintro e w3 ⟨rfl, b3⟩
  rw [show hasR r rs.length = false from hr]
  have z3 : w1.heap.size < w3.heap.size := Nat.lt_of_lt_of_le z2 b3.size
  have B3 := below_next B2 b3
  have k3 := has_below k2 b3 (by omega)
  have v3 := has_below v2 b3 (by omega)
  have p3 := has_below p2 b3 (by omega)
  have o3 := o2.below b3 (by omega)
  have HZ3 : Hid (w3.rowIs (w.heap.size + 1 + 1) 30 10 (fun i => (#[.slice none 0 0, .int .i64 0, .int .i64 0, .int .i64 0, .bool false, .int .i64 0, .int .i64 0, .int .i64 0, .int .i64 0, .slice none 0 0] : Array Value).getD i (.bool false))) := World.rowIs.of_block HZ2.out (b3.block _ (by omega))
  clear k2 p2 b3 o2 HZ2 B2 v2
  obtain ⟨d0, d1, d2, d3, d4, d5, d6, d7, d8, d9⟩ := row10 HZ3.out rfl rfl rfl rfl rfl rfl rfl rfl rfl rfl
  simp at d0 d1 d2 d3 d4 d5 d6 d7 d8 d9
  have ef := World.rowIs.frozen HZ3.out
  have HO : Hid (OwnAr (w.heap.size + 1 + 1 + 1) w1.heap.size w3 (.slice a1 ws.length c1) (.slice a2 rs.length c2) ws.length rs.length (wordAt ws) y) := o3
  have HB : Hid (Below w.heap.size w w3) := B3
  clear o3 B3 HZ3
  go_wp2
  have q0 : (w3.cell? ⟨w.heap.size + 1 + 1, 0, none⟩).isSome = true := by rw [d0]; rfl
  have q1 : (w3.cell? ⟨w.heap.size + 1 + 1, 1, none⟩).isSome = true := by rw [d1]; rfl
  have q2 : (w3.cell? ⟨w.heap.size + 1 + 1, 2, none⟩).isSome = true := by rw [d2]; rfl
  have q3 : (w3.cell? ⟨w.heap.size + 1 + 1, 3, none⟩).isSome = true := by rw [d3]; rfl
  have q4 : (w3.cell? ⟨w.heap.size + 1 + 1, 4, none⟩).isSome = true := by rw [d4]; rfl
  have q5 : (w3.cell? ⟨w.heap.size + 1 + 1, 5, none⟩).isSome = true := by rw [d5]; rfl
  have q6 : (w3.cell? ⟨w.heap.size + 1 + 1, 6, none⟩).isSome = true := by rw [d6]; rfl
  have q7 : (w3.cell? ⟨w.heap.size + 1 + 1, 7, none⟩).isSome = true := by rw [d7]; rfl
  have q8 : (w3.cell? ⟨w.heap.size + 1 + 1, 8, none⟩).isSome = true := by rw [d8]; rfl
  have q9 : (w3.cell? ⟨w.heap.size + 1 + 1, 9, none⟩).isSome = true := by rw [d9]; rfl
  refine bodyPost_ret (v := .tuple #[.agg #[.slice a1 ws.length c1, .int .i64 semi, .int .i64 toh, .int .i64 top, .bool cyc, .int .i64 scan, .int .i64 old, .int .i64 copied, .int .i64 serial, .slice a2 rs.length c2], .bool false]) (by simp [results, Tryz.results36, go_sem, q0, q1, q2, q3, q4, q5, q6, q7, q8, q9]) rfl ⟨_, _, rfl, ?_, ?_⟩
  · obtain ⟨u1, t1, u2, t2, h1, h2, h3, h4, h5, h6, h7⟩ := HO.out
    exact ⟨u1, t1, u2, t2, by omega, by simp; omega, by omega, by simp; omega, h5, own_ten h6 (by omega), own_ten h7 (by omega)⟩
  · exact below_ten HB.out (by omega)
set_option maxHeartbeats 2000000 in
theorem specSetRoot_no2 (aw : Option Addr) (cw : Nat) (ws : List Int) (semi toh top : Int) (cyc : Bool) (scan old copied serial : Int) (ar : Option Addr) (cr : Nat) (rs : List (Int × Int)) (r t m : Int) (y : Nat → Int) (Tr : Nat) (w : World) (hs : Sl w (.slice aw ws.length cw) ws) (hn : ws.length ≤ 1048576) (hw : Words64 ws) (hrt : SlF Tr w (.slice ar rs.length cr) rs.length (2 * rs.length) (fun i => .int .i64 (y i))) (hn2 : rs.length ≤ 1048576) (hok : ArOk ws semi toh top cyc scan old copied serial y rs.length) (hr : hasR r rs.length = true) (hv : vOk t m = false) :
    Calls Tryz.prog 36 #[.agg #[.slice aw ws.length cw, .int .i64 semi, .int .i64 toh, .int .i64 top, .bool cyc, .int .i64 scan, .int .i64 old, .int .i64 copied, .int .i64 serial, .slice ar rs.length cr], .int .i64 r, .agg #[.int .i64 t, .int .i64 m]] w fun e w' => ∃ vw vr, e = .returned (.tuple #[.agg #[vw, .int .i64 semi, .int .i64 toh, .int .i64 top, .bool cyc, .int .i64 scan, .int .i64 old, .int .i64 copied, .int .i64 serial, vr], .bool false]) ∧ OwnAr w.heap.size w'.heap.size w' vw vr ws.length rs.length (wordAt ws) (y) ∧ Below w.heap.size w w' := by
  have HS : Hid (Sl w (.slice aw ws.length cw) ws) := hs
  have HR : Hid (SlF w.heap.size w (.slice ar rs.length cr) rs.length (2 * rs.length) (fun i => .int .i64 (y i))) := hrt.here
  have HQ : Hid (ArOk ws semi toh top cyc scan old copied serial y rs.length) := hok
  clear hs hrt hok
  go_enter Tryz.func36, Tryz.ntmps36
  go_wp2_with fail
  refine (l2Copy_at _ _ _ _ _ _ _ _ _ _ _ _ _ _ y w.heap.size _ (HS.out.below (below_third (Below.refl _ _))) hn (HR.out.below (below_third (Below.refl _ _)) (Nat.le_refl _)) hn2).mono ?_
  rintro e w1 ⟨vw, vr, rfl, o1, b1⟩
  simp only [World.size_alloc] at o1
  obtain ⟨a1, c1, rfl⟩ := o1.sl.1.head
  obtain ⟨a2, c2, rfl⟩ := o1.sl.2.head
  have B1 := below_third b1
  have l1 : w.heap.size + 1 + 1 < w1.heap.size := by have := b1.size; simp at this; omega
  have l0 : w.heap.size < w1.heap.size := by omega
  have k1 : ∀ i, w1.cell? ⟨w.heap.size, i, none⟩ = (#[.slice aw ws.length cw, .int .i64 semi, .int .i64 toh, .int .i64 top, .bool cyc, .int .i64 scan, .int .i64 old, .int .i64 copied, .int .i64 serial, .slice ar rs.length cr] : Array Value)[i]? := fun i => by rw [b1.cell (p := ⟨w.heap.size, i, none⟩) (by simp <;> omega)]; simp [go_sem]
  have l2 : w.heap.size + 1 < w1.heap.size := by omega
  have v1 : ∀ i, w1.cell? ⟨w.heap.size + 1, i, none⟩ = (#[.int .i64 t, .int .i64 m] : Array Value)[i]? := fun i => by rw [b1.cell (p := ⟨w.heap.size + 1, i, none⟩) (by simp <;> omega)]; simp [go_sem]
  have hres := box_row3 (n := 10) b1 (by simp) rfl
  have Z1 : w1.rowIs (w.heap.size + 1 + 1) 30 10 (fun i => (#[.slice none 0 0, .int .i64 0, .int .i64 0, .int .i64 0, .bool false, .int .i64 0, .int .i64 0, .int .i64 0, .int .i64 0, .slice none 0 0] : Array Value).getD i (.bool false)) := hres
  have HZ1 : Hid _ := Z1
  clear b1 hres Z1
  go_wp2_with fail
  refine (specArenaOk_at _ _ _ _ _ _ _ _ _ _ _ _ _ _ y w.heap.size _ (HS.out.below (below_box B1)) hn hw (HR.out.below (below_box B1) (Nat.le_refl _)) hn2).mono ?_
  rintro e w2 ⟨q, rfl, hq, b2⟩
  obtain rfl := hq.2 HQ.out
  have b2f := below_first b2
  have p2 := one_cells b2 (by simp)
  have z2 : w1.heap.size < w2.heap.size := size_first b2
  have B2 := below_next B1 b2f
  have k2 := has_below k1 b2f (by omega)
  have v2 := has_below v1 b2f (by omega)
  have o2 := o1.below b2f (by omega)
  have HZ2 : Hid (w2.rowIs (w.heap.size + 1 + 1) 30 10 (fun i => (#[.slice none 0 0, .int .i64 0, .int .i64 0, .int .i64 0, .bool false, .int .i64 0, .int .i64 0, .int .i64 0, .int .i64 0, .slice none 0 0] : Array Value).getD i (.bool false))) := World.rowIs.of_block HZ1.out (b2f.block _ (by omega))
  clear k1 b2 b2f o1 HZ1 hq B1 v1
  go_wp2_with fail
  refine (l2Root_any _ _ _ _ _ _ _ _ _ _ _ _ _ _ _ _ hn2).mono ?_
  rintro e w3 ⟨rfl, b3⟩
  rw [show hasR r rs.length = true from hr]
  have z3 : w1.heap.size < w3.heap.size := Nat.lt_of_lt_of_le z2 b3.size
  have B3 := below_next B2 b3
  have k3 := has_below k2 b3 (by omega)
  have v3 := has_below v2 b3 (by omega)
  have p3 := has_below p2 b3 (by omega)
  have o3 := o2.below b3 (by omega)
  have HZ3 : Hid (w3.rowIs (w.heap.size + 1 + 1) 30 10 (fun i => (#[.slice none 0 0, .int .i64 0, .int .i64 0, .int .i64 0, .bool false, .int .i64 0, .int .i64 0, .int .i64 0, .int .i64 0, .slice none 0 0] : Array Value).getD i (.bool false))) := World.rowIs.of_block HZ2.out (b3.block _ (by omega))
  clear k2 p2 b3 o2 HZ2 B2 v2
  go_wp2_with fail
  refine (specValOk_any _ _ _).mono ?_
  rintro e w4 ⟨rfl, b4⟩
  rw [hv]
  have z4 : w1.heap.size < w4.heap.size := Nat.lt_of_lt_of_le z3 b4.size
  have B4 := below_next B3 b4
  have k4 := has_below k3 b4 (by omega)
  have v4 := has_below v3 b4 (by omega)
  have p4 := has_below p3 b4 (by omega)
  have o4 := o3.below b4 (by omega)
  have HZ4 : Hid (w4.rowIs (w.heap.size + 1 + 1) 30 10 (fun i => (#[.slice none 0 0, .int .i64 0, .int .i64 0, .int .i64 0, .bool false, .int .i64 0, .int .i64 0, .int .i64 0, .int .i64 0, .slice none 0 0] : Array Value).getD i (.bool false))) := World.rowIs.of_block HZ3.out (b4.block _ (by omega))
  clear k3 p3 b4 o3 HZ3 B3 v3
  obtain ⟨d0, d1, d2, d3, d4, d5, d6, d7, d8, d9⟩ := row10 HZ4.out rfl rfl rfl rfl rfl rfl rfl rfl rfl rfl
  simp at d0 d1 d2 d3 d4 d5 d6 d7 d8 d9
  have ef := World.rowIs.frozen HZ4.out
  have HO : Hid (OwnAr (w.heap.size + 1 + 1 + 1) w1.heap.size w4 (.slice a1 ws.length c1) (.slice a2 rs.length c2) ws.length rs.length (wordAt ws) y) := o4
  have HB : Hid (Below w.heap.size w w4) := B4
  clear o4 B4 HZ4
  go_wp2
  have q0 : (w4.cell? ⟨w.heap.size + 1 + 1, 0, none⟩).isSome = true := by rw [d0]; rfl
  have q1 : (w4.cell? ⟨w.heap.size + 1 + 1, 1, none⟩).isSome = true := by rw [d1]; rfl
  have q2 : (w4.cell? ⟨w.heap.size + 1 + 1, 2, none⟩).isSome = true := by rw [d2]; rfl
  have q3 : (w4.cell? ⟨w.heap.size + 1 + 1, 3, none⟩).isSome = true := by rw [d3]; rfl
  have q4 : (w4.cell? ⟨w.heap.size + 1 + 1, 4, none⟩).isSome = true := by rw [d4]; rfl
  have q5 : (w4.cell? ⟨w.heap.size + 1 + 1, 5, none⟩).isSome = true := by rw [d5]; rfl
  have q6 : (w4.cell? ⟨w.heap.size + 1 + 1, 6, none⟩).isSome = true := by rw [d6]; rfl
  have q7 : (w4.cell? ⟨w.heap.size + 1 + 1, 7, none⟩).isSome = true := by rw [d7]; rfl
  have q8 : (w4.cell? ⟨w.heap.size + 1 + 1, 8, none⟩).isSome = true := by rw [d8]; rfl
  have q9 : (w4.cell? ⟨w.heap.size + 1 + 1, 9, none⟩).isSome = true := by rw [d9]; rfl
  refine bodyPost_ret (v := .tuple #[.agg #[.slice a1 ws.length c1, .int .i64 semi, .int .i64 toh, .int .i64 top, .bool cyc, .int .i64 scan, .int .i64 old, .int .i64 copied, .int .i64 serial, .slice a2 rs.length c2], .bool false]) (by simp [results, Tryz.results36, go_sem, q0, q1, q2, q3, q4, q5, q6, q7, q8, q9]) rfl ⟨_, _, rfl, ?_, ?_⟩
  · obtain ⟨u1, t1, u2, t2, h1, h2, h3, h4, h5, h6, h7⟩ := HO.out
    exact ⟨u1, t1, u2, t2, by omega, by simp; omega, by omega, by simp; omega, h5, own_ten h6 (by omega), own_ten h7 (by omega)⟩
  · exact below_ten HB.out (by omega)
set_option maxHeartbeats 2000000 in
theorem specSetRoot_no3 (aw : Option Addr) (cw : Nat) (ws : List Int) (semi toh top : Int) (cyc : Bool) (scan old copied serial : Int) (ar : Option Addr) (cr : Nat) (rs : List (Int × Int)) (r t m : Int) (y : Nat → Int) (Tr : Nat) (w : World) (hs : Sl w (.slice aw ws.length cw) ws) (hn : ws.length ≤ 1048576) (hw : Words64 ws) (hrt : SlF Tr w (.slice ar rs.length cr) rs.length (2 * rs.length) (fun i => .int .i64 (y i))) (hn2 : rs.length ≤ 1048576) (hok : ArOk ws semi toh top cyc scan old copied serial y rs.length) (hr : hasR r rs.length = true) (hv : vOk t m = true) (hi : isR t = true) :
    Calls Tryz.prog 36 #[.agg #[.slice aw ws.length cw, .int .i64 semi, .int .i64 toh, .int .i64 top, .bool cyc, .int .i64 scan, .int .i64 old, .int .i64 copied, .int .i64 serial, .slice ar rs.length cr], .int .i64 r, .agg #[.int .i64 t, .int .i64 m]] w fun e w' => ∃ vw vr, e = .returned (.tuple #[.agg #[vw, .int .i64 semi, .int .i64 toh, .int .i64 top, .bool cyc, .int .i64 scan, .int .i64 old, .int .i64 copied, .int .i64 serial, vr], .bool false]) ∧ OwnAr w.heap.size w'.heap.size w' vw vr ws.length rs.length (wordAt ws) (y) ∧ Below w.heap.size w w' := by
  have HS : Hid (Sl w (.slice aw ws.length cw) ws) := hs
  have HR : Hid (SlF w.heap.size w (.slice ar rs.length cr) rs.length (2 * rs.length) (fun i => .int .i64 (y i))) := hrt.here
  have HQ : Hid (ArOk ws semi toh top cyc scan old copied serial y rs.length) := hok
  clear hs hrt hok
  go_enter Tryz.func36, Tryz.ntmps36
  go_wp2_with fail
  refine (l2Copy_at _ _ _ _ _ _ _ _ _ _ _ _ _ _ y w.heap.size _ (HS.out.below (below_third (Below.refl _ _))) hn (HR.out.below (below_third (Below.refl _ _)) (Nat.le_refl _)) hn2).mono ?_
  rintro e w1 ⟨vw, vr, rfl, o1, b1⟩
  simp only [World.size_alloc] at o1
  obtain ⟨a1, c1, rfl⟩ := o1.sl.1.head
  obtain ⟨a2, c2, rfl⟩ := o1.sl.2.head
  have B1 := below_third b1
  have l1 : w.heap.size + 1 + 1 < w1.heap.size := by have := b1.size; simp at this; omega
  have l0 : w.heap.size < w1.heap.size := by omega
  have k1 : ∀ i, w1.cell? ⟨w.heap.size, i, none⟩ = (#[.slice aw ws.length cw, .int .i64 semi, .int .i64 toh, .int .i64 top, .bool cyc, .int .i64 scan, .int .i64 old, .int .i64 copied, .int .i64 serial, .slice ar rs.length cr] : Array Value)[i]? := fun i => by rw [b1.cell (p := ⟨w.heap.size, i, none⟩) (by simp <;> omega)]; simp [go_sem]
  have l2 : w.heap.size + 1 < w1.heap.size := by omega
  have v1 : ∀ i, w1.cell? ⟨w.heap.size + 1, i, none⟩ = (#[.int .i64 t, .int .i64 m] : Array Value)[i]? := fun i => by rw [b1.cell (p := ⟨w.heap.size + 1, i, none⟩) (by simp <;> omega)]; simp [go_sem]
  have hres := box_row3 (n := 10) b1 (by simp) rfl
  have Z1 : w1.rowIs (w.heap.size + 1 + 1) 30 10 (fun i => (#[.slice none 0 0, .int .i64 0, .int .i64 0, .int .i64 0, .bool false, .int .i64 0, .int .i64 0, .int .i64 0, .int .i64 0, .slice none 0 0] : Array Value).getD i (.bool false)) := hres
  have HZ1 : Hid _ := Z1
  clear b1 hres Z1
  go_wp2_with fail
  refine (specArenaOk_at _ _ _ _ _ _ _ _ _ _ _ _ _ _ y w.heap.size _ (HS.out.below (below_box B1)) hn hw (HR.out.below (below_box B1) (Nat.le_refl _)) hn2).mono ?_
  rintro e w2 ⟨q, rfl, hq, b2⟩
  obtain rfl := hq.2 HQ.out
  have b2f := below_first b2
  have p2 := one_cells b2 (by simp)
  have z2 : w1.heap.size < w2.heap.size := size_first b2
  have B2 := below_next B1 b2f
  have k2 := has_below k1 b2f (by omega)
  have v2 := has_below v1 b2f (by omega)
  have o2 := o1.below b2f (by omega)
  have HZ2 : Hid (w2.rowIs (w.heap.size + 1 + 1) 30 10 (fun i => (#[.slice none 0 0, .int .i64 0, .int .i64 0, .int .i64 0, .bool false, .int .i64 0, .int .i64 0, .int .i64 0, .int .i64 0, .slice none 0 0] : Array Value).getD i (.bool false))) := World.rowIs.of_block HZ1.out (b2f.block _ (by omega))
  clear k1 b2 b2f o1 HZ1 hq B1 v1
  go_wp2_with fail
  refine (l2Root_any _ _ _ _ _ _ _ _ _ _ _ _ _ _ _ _ hn2).mono ?_
  rintro e w3 ⟨rfl, b3⟩
  rw [show hasR r rs.length = true from hr]
  have z3 : w1.heap.size < w3.heap.size := Nat.lt_of_lt_of_le z2 b3.size
  have B3 := below_next B2 b3
  have k3 := has_below k2 b3 (by omega)
  have v3 := has_below v2 b3 (by omega)
  have p3 := has_below p2 b3 (by omega)
  have o3 := o2.below b3 (by omega)
  have HZ3 : Hid (w3.rowIs (w.heap.size + 1 + 1) 30 10 (fun i => (#[.slice none 0 0, .int .i64 0, .int .i64 0, .int .i64 0, .bool false, .int .i64 0, .int .i64 0, .int .i64 0, .int .i64 0, .slice none 0 0] : Array Value).getD i (.bool false))) := World.rowIs.of_block HZ2.out (b3.block _ (by omega))
  clear k2 p2 b3 o2 HZ2 B2 v2
  go_wp2_with fail
  refine (specValOk_any _ _ _).mono ?_
  rintro e w4 ⟨rfl, b4⟩
  rw [hv]
  have z4 : w1.heap.size < w4.heap.size := Nat.lt_of_lt_of_le z3 b4.size
  have B4 := below_next B3 b4
  have k4 := has_below k3 b4 (by omega)
  have v4 := has_below v3 b4 (by omega)
  have p4 := has_below p3 b4 (by omega)
  have o4 := o3.below b4 (by omega)
  have HZ4 : Hid (w4.rowIs (w.heap.size + 1 + 1) 30 10 (fun i => (#[.slice none 0 0, .int .i64 0, .int .i64 0, .int .i64 0, .bool false, .int .i64 0, .int .i64 0, .int .i64 0, .int .i64 0, .slice none 0 0] : Array Value).getD i (.bool false))) := World.rowIs.of_block HZ3.out (b4.block _ (by omega))
  clear k3 p3 b4 o3 HZ3 B3 v3
  go_wp2_with fail
  refine (specIsRef_any _ _ _).mono ?_
  rintro e w5 ⟨rfl, b5⟩
  rw [hi]
  have z5 : w1.heap.size < w5.heap.size := Nat.lt_of_lt_of_le z4 b5.size
  have B5 := below_next B4 b5
  have k5 := has_below k4 b5 (by omega)
  have v5 := has_below v4 b5 (by omega)
  have p5 := has_below p4 b5 (by omega)
  have o5 := o4.below b5 (by omega)
  have HZ5 : Hid (w5.rowIs (w.heap.size + 1 + 1) 30 10 (fun i => (#[.slice none 0 0, .int .i64 0, .int .i64 0, .int .i64 0, .bool false, .int .i64 0, .int .i64 0, .int .i64 0, .int .i64 0, .slice none 0 0] : Array Value).getD i (.bool false))) := World.rowIs.of_block HZ4.out (b5.block _ (by omega))
  clear k4 p4 b5 o4 HZ4 B4 v4
  obtain ⟨d0, d1, d2, d3, d4, d5, d6, d7, d8, d9⟩ := row10 HZ5.out rfl rfl rfl rfl rfl rfl rfl rfl rfl rfl
  simp at d0 d1 d2 d3 d4 d5 d6 d7 d8 d9
  have ef := World.rowIs.frozen HZ5.out
  have HO : Hid (OwnAr (w.heap.size + 1 + 1 + 1) w1.heap.size w5 (.slice a1 ws.length c1) (.slice a2 rs.length c2) ws.length rs.length (wordAt ws) y) := o5
  have HB : Hid (Below w.heap.size w w5) := B5
  clear o5 B5 HZ5
  go_wp2
  have q0 : (w5.cell? ⟨w.heap.size + 1 + 1, 0, none⟩).isSome = true := by rw [d0]; rfl
  have q1 : (w5.cell? ⟨w.heap.size + 1 + 1, 1, none⟩).isSome = true := by rw [d1]; rfl
  have q2 : (w5.cell? ⟨w.heap.size + 1 + 1, 2, none⟩).isSome = true := by rw [d2]; rfl
  have q3 : (w5.cell? ⟨w.heap.size + 1 + 1, 3, none⟩).isSome = true := by rw [d3]; rfl
  have q4 : (w5.cell? ⟨w.heap.size + 1 + 1, 4, none⟩).isSome = true := by rw [d4]; rfl
  have q5 : (w5.cell? ⟨w.heap.size + 1 + 1, 5, none⟩).isSome = true := by rw [d5]; rfl
  have q6 : (w5.cell? ⟨w.heap.size + 1 + 1, 6, none⟩).isSome = true := by rw [d6]; rfl
  have q7 : (w5.cell? ⟨w.heap.size + 1 + 1, 7, none⟩).isSome = true := by rw [d7]; rfl
  have q8 : (w5.cell? ⟨w.heap.size + 1 + 1, 8, none⟩).isSome = true := by rw [d8]; rfl
  have q9 : (w5.cell? ⟨w.heap.size + 1 + 1, 9, none⟩).isSome = true := by rw [d9]; rfl
  refine bodyPost_ret (v := .tuple #[.agg #[.slice a1 ws.length c1, .int .i64 semi, .int .i64 toh, .int .i64 top, .bool cyc, .int .i64 scan, .int .i64 old, .int .i64 copied, .int .i64 serial, .slice a2 rs.length c2], .bool false]) (by simp [results, Tryz.results36, go_sem, q0, q1, q2, q3, q4, q5, q6, q7, q8, q9]) rfl ⟨_, _, rfl, ?_, ?_⟩
  · obtain ⟨u1, t1, u2, t2, h1, h2, h3, h4, h5, h6, h7⟩ := HO.out
    exact ⟨u1, t1, u2, t2, by omega, by simp; omega, by omega, by simp; omega, h5, own_ten h6 (by omega), own_ten h7 (by omega)⟩
  · exact below_ten HB.out (by omega)
set_option maxHeartbeats 2000000 in
theorem specSetRoot_yes (aw : Option Addr) (cw : Nat) (ws : List Int) (semi toh top : Int) (cyc : Bool) (scan old copied serial : Int) (ar : Option Addr) (cr : Nat) (rs : List (Int × Int)) (r : Nat) (t m : Int) (y : Nat → Int) (Tr : Nat) (w : World) (hs : Sl w (.slice aw ws.length cw) ws) (hn : ws.length ≤ 1048576) (hw : Words64 ws) (hrt : SlF Tr w (.slice ar rs.length cr) rs.length (2 * rs.length) (fun i => .int .i64 (y i))) (hn2 : rs.length ≤ 1048576) (hok : ArOk ws semi toh top cyc scan old copied serial y rs.length) (hr : r < rs.length) (hv : vOk t m = true) (hi : isR t = false) :
    Calls Tryz.prog 36 #[.agg #[.slice aw ws.length cw, .int .i64 semi, .int .i64 toh, .int .i64 top, .bool cyc, .int .i64 scan, .int .i64 old, .int .i64 copied, .int .i64 serial, .slice ar rs.length cr], .int .i64 r, .agg #[.int .i64 t, .int .i64 m]] w fun e w' => ∃ vw vr, e = .returned (.tuple #[.agg #[vw, .int .i64 semi, .int .i64 toh, .int .i64 top, .bool cyc, .int .i64 scan, .int .i64 old, .int .i64 copied, .int .i64 serial, vr], .bool true]) ∧ OwnAr w.heap.size w'.heap.size w' vw vr ws.length rs.length (wordAt ws) (putY y r t m) ∧ Below w.heap.size w w' := by
  have HS : Hid (Sl w (.slice aw ws.length cw) ws) := hs
  have HR : Hid (SlF w.heap.size w (.slice ar rs.length cr) rs.length (2 * rs.length) (fun i => .int .i64 (y i))) := hrt.here
  have HQ : Hid (ArOk ws semi toh top cyc scan old copied serial y rs.length) := hok
  clear hs hrt hok
  go_enter Tryz.func36, Tryz.ntmps36
  go_wp2_with fail
  refine (l2Copy_at _ _ _ _ _ _ _ _ _ _ _ _ _ _ y w.heap.size _ (HS.out.below (below_third (Below.refl _ _))) hn (HR.out.below (below_third (Below.refl _ _)) (Nat.le_refl _)) hn2).mono ?_
  rintro e w1 ⟨vw, vr, rfl, o1, b1⟩
  simp only [World.size_alloc] at o1
  obtain ⟨a1, c1, rfl⟩ := o1.sl.1.head
  obtain ⟨a2, c2, rfl⟩ := o1.sl.2.head
  have B1 := below_third b1
  have l1 : w.heap.size + 1 + 1 < w1.heap.size := by have := b1.size; simp at this; omega
  have l0 : w.heap.size < w1.heap.size := by omega
  have k1 : ∀ i, w1.cell? ⟨w.heap.size, i, none⟩ = (#[.slice aw ws.length cw, .int .i64 semi, .int .i64 toh, .int .i64 top, .bool cyc, .int .i64 scan, .int .i64 old, .int .i64 copied, .int .i64 serial, .slice ar rs.length cr] : Array Value)[i]? := fun i => by rw [b1.cell (p := ⟨w.heap.size, i, none⟩) (by simp <;> omega)]; simp [go_sem]
  have l2 : w.heap.size + 1 < w1.heap.size := by omega
  have v1 : ∀ i, w1.cell? ⟨w.heap.size + 1, i, none⟩ = (#[.int .i64 t, .int .i64 m] : Array Value)[i]? := fun i => by rw [b1.cell (p := ⟨w.heap.size + 1, i, none⟩) (by simp <;> omega)]; simp [go_sem]
  have hres := box_row3 (n := 10) b1 (by simp) rfl
  have Z1 : w1.rowIs (w.heap.size + 1 + 1) 30 10 (fun i => (#[.slice none 0 0, .int .i64 0, .int .i64 0, .int .i64 0, .bool false, .int .i64 0, .int .i64 0, .int .i64 0, .int .i64 0, .slice none 0 0] : Array Value).getD i (.bool false)) := hres
  have HZ1 : Hid _ := Z1
  clear b1 hres Z1
  go_wp2_with fail
  refine (specArenaOk_at _ _ _ _ _ _ _ _ _ _ _ _ _ _ y w.heap.size _ (HS.out.below (below_box B1)) hn hw (HR.out.below (below_box B1) (Nat.le_refl _)) hn2).mono ?_
  rintro e w2 ⟨q, rfl, hq, b2⟩
  obtain rfl := hq.2 HQ.out
  have b2f := below_first b2
  have p2 := one_cells b2 (by simp)
  have z2 : w1.heap.size < w2.heap.size := size_first b2
  have B2 := below_next B1 b2f
  have k2 := has_below k1 b2f (by omega)
  have v2 := has_below v1 b2f (by omega)
  have o2 := o1.below b2f (by omega)
  have HZ2 : Hid (w2.rowIs (w.heap.size + 1 + 1) 30 10 (fun i => (#[.slice none 0 0, .int .i64 0, .int .i64 0, .int .i64 0, .bool false, .int .i64 0, .int .i64 0, .int .i64 0, .int .i64 0, .slice none 0 0] : Array Value).getD i (.bool false))) := World.rowIs.of_block HZ1.out (b2f.block _ (by omega))
  clear k1 b2 b2f o1 HZ1 hq B1 v1
  go_wp2_with fail
  refine (l2Root_any _ _ _ _ _ _ _ _ _ _ _ _ _ _ _ _ hn2).mono ?_
  rintro e w3 ⟨rfl, b3⟩
  rw [show hasR (r : Int) rs.length = true from decide_eq_true ⟨by omega, by omega⟩]
  have z3 : w1.heap.size < w3.heap.size := Nat.lt_of_lt_of_le z2 b3.size
  have B3 := below_next B2 b3
  have k3 := has_below k2 b3 (by omega)
  have v3 := has_below v2 b3 (by omega)
  have p3 := has_below p2 b3 (by omega)
  have o3 := o2.below b3 (by omega)
  have HZ3 : Hid (w3.rowIs (w.heap.size + 1 + 1) 30 10 (fun i => (#[.slice none 0 0, .int .i64 0, .int .i64 0, .int .i64 0, .bool false, .int .i64 0, .int .i64 0, .int .i64 0, .int .i64 0, .slice none 0 0] : Array Value).getD i (.bool false))) := World.rowIs.of_block HZ2.out (b3.block _ (by omega))
  clear k2 p2 b3 o2 HZ2 B2 v2
  go_wp2_with fail
  refine (specValOk_any _ _ _).mono ?_
  rintro e w4 ⟨rfl, b4⟩
  rw [hv]
  have z4 : w1.heap.size < w4.heap.size := Nat.lt_of_lt_of_le z3 b4.size
  have B4 := below_next B3 b4
  have k4 := has_below k3 b4 (by omega)
  have v4 := has_below v3 b4 (by omega)
  have p4 := has_below p3 b4 (by omega)
  have o4 := o3.below b4 (by omega)
  have HZ4 : Hid (w4.rowIs (w.heap.size + 1 + 1) 30 10 (fun i => (#[.slice none 0 0, .int .i64 0, .int .i64 0, .int .i64 0, .bool false, .int .i64 0, .int .i64 0, .int .i64 0, .int .i64 0, .slice none 0 0] : Array Value).getD i (.bool false))) := World.rowIs.of_block HZ3.out (b4.block _ (by omega))
  clear k3 p3 b4 o3 HZ3 B3 v3
  go_wp2_with fail
  refine (specIsRef_any _ _ _).mono ?_
  rintro e w5 ⟨rfl, b5⟩
  rw [hi]
  have z5 : w1.heap.size < w5.heap.size := Nat.lt_of_lt_of_le z4 b5.size
  have B5 := below_next B4 b5
  have k5 := has_below k4 b5 (by omega)
  have v5 := has_below v4 b5 (by omega)
  have p5 := has_below p4 b5 (by omega)
  have o5 := o4.below b5 (by omega)
  have HZ5 : Hid (w5.rowIs (w.heap.size + 1 + 1) 30 10 (fun i => (#[.slice none 0 0, .int .i64 0, .int .i64 0, .int .i64 0, .bool false, .int .i64 0, .int .i64 0, .int .i64 0, .int .i64 0, .slice none 0 0] : Array Value).getD i (.bool false))) := World.rowIs.of_block HZ4.out (b5.block _ (by omega))
  clear k4 p4 b5 o4 HZ4 B4 v4
  obtain ⟨d0, d1, d2, d3, d4, d5, d6, d7, d8, d9⟩ := row10 HZ5.out rfl rfl rfl rfl rfl rfl rfl rfl rfl rfl
  simp at d0 d1 d2 d3 d4 d5 d6 d7 d8 d9
  have ef := World.rowIs.frozen HZ5.out
  obtain ⟨u1, t1, u2, t2, h1, h2, h3, h4, h5, h6, h7⟩ := o5
  obtain ⟨a2', c2', he, h7⟩ := h7
  simp only [Value.slice.injEq] at he
  obtain ⟨rfl, _, rfl⟩ := he
  rcases h7 with h7 | ⟨g, M, fn, rfl, hg1, hg2, hM, hrow, hfn⟩
  · omega
  have x0 : w5.cell? ⟨g, r * 2, none⟩ = some (.int .i64 (y (2 * r))) := by rw [hrow.cell (by omega), hfn _ (by omega), Nat.mul_comm]
  have x1 : w5.cell? ⟨g, r * 2 + 1, none⟩ = some (.int .i64 (y (2 * r + 1))) := by rw [hrow.cell (by omega), hfn _ (by omega), Nat.mul_comm]
  have ff := hrow.frozen
  have hr' : (r : Int) < (rs.length : Int) := by omega
  have n1 : g ≠ w.heap.size + 1 + 1 := by omega
  have n2 : w.heap.size + 1 + 1 ≠ g := by omega
  have n3 : g ≠ w1.heap.size := by omega
  have n4 : w1.heap.size ≠ g := by omega
  have n5 : g ≠ w.heap.size + 1 := by omega
  have n6 : w.heap.size + 1 ≠ g := by omega
  have HRW : Hid (w5.rowIs g 50 M fn) := hrow
  have HFN : Hid (∀ i, i < 2 * rs.length → fn i = .int .i64 (y i)) := hfn
  have HOW : Hid (OwnF u1 t1 93 w5 (.slice a1 ws.length c1) ws.length ws.length (fun i => .int .u64 (wordAt ws i))) := h6
  have HB : Hid (Below w.heap.size w w5) := B5
  have HN : Hid (w.heap.size + 1 + 1 + 1 ≤ u1 ∧ t1 ≤ w1.heap.size ∧ w.heap.size + 1 + 1 + 1 ≤ u2 ∧ t2 ≤ w1.heap.size ∧ (t1 ≤ u2 ∨ t2 ≤ u1) ∧ u2 ≤ g ∧ g < t2 ∧ 2 * rs.length ≤ M ∧ w1.heap.size < w5.heap.size) := ⟨h1, h2, h3, h4, h5, hg1, hg2, hM, z5⟩
  clear h1 h2 h3 h4 h5 h6 hg1 hg2 hM hrow hfn HZ5 B5
  go_wp2_with fail
  first | go_region | skip
  all_goals
    go_wp2
    have q0 : (w5.cell? ⟨w.heap.size + 1 + 1, 0, none⟩).isSome = true := by rw [d0]; rfl
    have q1 : (w5.cell? ⟨w.heap.size + 1 + 1, 1, none⟩).isSome = true := by rw [d1]; rfl
    have q2 : (w5.cell? ⟨w.heap.size + 1 + 1, 2, none⟩).isSome = true := by rw [d2]; rfl
    have q3 : (w5.cell? ⟨w.heap.size + 1 + 1, 3, none⟩).isSome = true := by rw [d3]; rfl
    have q4 : (w5.cell? ⟨w.heap.size + 1 + 1, 4, none⟩).isSome = true := by rw [d4]; rfl
    have q5 : (w5.cell? ⟨w.heap.size + 1 + 1, 5, none⟩).isSome = true := by rw [d5]; rfl
    have q6 : (w5.cell? ⟨w.heap.size + 1 + 1, 6, none⟩).isSome = true := by rw [d6]; rfl
    have q7 : (w5.cell? ⟨w.heap.size + 1 + 1, 7, none⟩).isSome = true := by rw [d7]; rfl
    have q8 : (w5.cell? ⟨w.heap.size + 1 + 1, 8, none⟩).isSome = true := by rw [d8]; rfl
    have q9 : (w5.cell? ⟨w.heap.size + 1 + 1, 9, none⟩).isSome = true := by rw [d9]; rfl
    refine bodyPost_ret (v := .tuple #[.agg #[.slice a1 ws.length c1, .int .i64 semi, .int .i64 toh, .int .i64 top, .bool cyc, .int .i64 scan, .int .i64 old, .int .i64 copied, .int .i64 serial, .slice (some ⟨g, 0, none⟩) rs.length c2], .bool true]) (by simp [results, Tryz.results36, go_sem, q0, q1, q2, q3, q4, q5, q6, q7, q8, q9, n1, n2, n3, n4]) rfl ⟨_, _, rfl, ?_, ?_⟩
    · obtain ⟨h1, h2, h3, h4, h5, hg1, hg2, hM, z5⟩ := HN.out
      refine ⟨u1, t1, u2, t2, by omega, by simp; omega, by omega, by simp; omega, h5, ?_, ?_⟩
      · refine own_ten (k := w.heap.size + 1 + 1) (HOW.out.block (w' := (w5.setCell ⟨g, r * 2, none⟩ (.int .i64 t)).setCell ⟨g, r * 2 + 1, none⟩ (.int .i64 m)) fun k hk hk' => ?_) (by omega)
        rw [Below.heap_setCell _ _ _ _ (by show k ≠ g; omega), Below.heap_setCell _ _ _ _ (by show k ≠ g; omega)]
      · exact own_ten (k := w.heap.size + 1 + 1) (ownV_put HRW.out HFN.out hg1 hg2 hM _ _) (by omega)
    · obtain ⟨h1, h2, h3, h4, h5, hg1, hg2, hM, z5⟩ := HN.out
      exact below_ten ((HB.out.setCell (p := ⟨g, r * 2, none⟩) (by show w.heap.size ≤ g; omega) _).setCell (p := ⟨g, r * 2 + 1, none⟩) (by show w.heap.size ≤ g; omega) _) (by omega)
set_option maxHeartbeats 2000000 in
theorem implSetRoot_no0 (aw : Option Addr) (cw : Nat) (ws : List Int) (semi toh top : Int) (cyc : Bool) (scan old copied serial : Int) (ar : Option Addr) (cr : Nat) (rs : List (Int × Int)) (r t m : Int) (y : Nat → Int) (Tr : Nat) (w : World) (hs : Sl w (.slice aw ws.length cw) ws) (hcw : ws.length ≤ cw) (hn : ws.length ≤ 1048576) (hw : Words64 ws) (hrt : SlF Tr w (.slice ar rs.length cr) rs.length (2 * rs.length) (fun i => .int .i64 (y i))) (hn2 : rs.length ≤ 1048576) (hok : ¬ ArOk ws semi toh top cyc scan old copied serial y rs.length) :
    Calls Tryz.prog 38 #[.agg #[.slice aw ws.length cw, .int .i64 semi, .int .i64 toh, .int .i64 top, .bool cyc, .int .i64 scan, .int .i64 old, .int .i64 copied, .int .i64 serial, .slice ar rs.length cr], .int .i64 r, .agg #[.int .i64 t, .int .i64 m]] w fun e w' => ∃ vw vr, e = .returned (.tuple #[.agg #[vw, .int .i64 semi, .int .i64 toh, .int .i64 top, .bool cyc, .int .i64 scan, .int .i64 old, .int .i64 copied, .int .i64 serial, vr], .bool false]) ∧ OwnAr w.heap.size w'.heap.size w' vw vr ws.length rs.length (wordAt ws) (y) ∧ Below w.heap.size w w' := by
  have HS : Hid (Sl w (.slice aw ws.length cw) ws) := hs
  have HR : Hid (SlF w.heap.size w (.slice ar rs.length cr) rs.length (2 * rs.length) (fun i => .int .i64 (y i))) := hrt.here
  have HQ : Hid (¬ ArOk ws semi toh top cyc scan old copied serial y rs.length) := hok
  clear hs hrt hok
  go_enter Tryz.func38, Tryz.ntmps38
  go_wp2_with fail
  refine (clone_at _ _ _ _ _ _ _ _ _ _ _ _ _ _ y w.heap.size _ (HS.out.below (below_third (Below.refl _ _))) hn (HR.out.below (below_third (Below.refl _ _)) (Nat.le_refl _)) hn2).mono ?_
  rintro e w1 ⟨vw, vr, rfl, o1, b1⟩
  simp only [World.size_alloc] at o1
  obtain ⟨a1, c1, rfl⟩ := o1.sl.1.head
  obtain ⟨a2, c2, rfl⟩ := o1.sl.2.head
  have B1 := below_third b1
  have l1 : w.heap.size + 1 + 1 < w1.heap.size := by have := b1.size; simp at this; omega
  have l0 : w.heap.size < w1.heap.size := by omega
  have k1 : ∀ i, w1.cell? ⟨w.heap.size, i, none⟩ = (#[.slice aw ws.length cw, .int .i64 semi, .int .i64 toh, .int .i64 top, .bool cyc, .int .i64 scan, .int .i64 old, .int .i64 copied, .int .i64 serial, .slice ar rs.length cr] : Array Value)[i]? := fun i => by rw [b1.cell (p := ⟨w.heap.size, i, none⟩) (by simp <;> omega)]; simp [go_sem]
  have l2 : w.heap.size + 1 < w1.heap.size := by omega
  have v1 : ∀ i, w1.cell? ⟨w.heap.size + 1, i, none⟩ = (#[.int .i64 t, .int .i64 m] : Array Value)[i]? := fun i => by rw [b1.cell (p := ⟨w.heap.size + 1, i, none⟩) (by simp <;> omega)]; simp [go_sem]
  have hres := box_row3 (n := 10) b1 (by simp) rfl
  have Z1 : w1.rowIs (w.heap.size + 1 + 1) 30 10 (fun i => (#[.slice none 0 0, .int .i64 0, .int .i64 0, .int .i64 0, .bool false, .int .i64 0, .int .i64 0, .int .i64 0, .int .i64 0, .slice none 0 0] : Array Value).getD i (.bool false)) := hres
  have HZ1 : Hid _ := Z1
  clear b1 hres Z1
  go_wp2_with fail
  refine (implArenaOk_at _ _ _ _ _ _ _ _ _ _ _ _ _ _ y w.heap.size _ (HS.out.below (below_box B1)) hcw hn hw (HR.out.below (below_box B1) (Nat.le_refl _)) hn2).mono ?_
  rintro e w2 ⟨q, rfl, hq, b2⟩
  obtain rfl : q = false := by
    cases q with
    | false => rfl
    | true => exact absurd (hq.1 rfl) HQ.out
  have b2f := below_first b2
  have p2 := one_cells b2 (by simp)
  have z2 : w1.heap.size < w2.heap.size := size_first b2
  have B2 := below_next B1 b2f
  have k2 := has_below k1 b2f (by omega)
  have v2 := has_below v1 b2f (by omega)
  have o2 := o1.below b2f (by omega)
  have HZ2 : Hid (w2.rowIs (w.heap.size + 1 + 1) 30 10 (fun i => (#[.slice none 0 0, .int .i64 0, .int .i64 0, .int .i64 0, .bool false, .int .i64 0, .int .i64 0, .int .i64 0, .int .i64 0, .slice none 0 0] : Array Value).getD i (.bool false))) := World.rowIs.of_block HZ1.out (b2f.block _ (by omega))
  clear k1 b2 b2f o1 HZ1 hq B1 v1
  obtain ⟨d0, d1, d2, d3, d4, d5, d6, d7, d8, d9⟩ := row10 HZ2.out rfl rfl rfl rfl rfl rfl rfl rfl rfl rfl
  simp at d0 d1 d2 d3 d4 d5 d6 d7 d8 d9
  have ef := World.rowIs.frozen HZ2.out
  have HO : Hid (OwnAr (w.heap.size + 1 + 1 + 1) w1.heap.size w2 (.slice a1 ws.length c1) (.slice a2 rs.length c2) ws.length rs.length (wordAt ws) y) := o2
  have HB : Hid (Below w.heap.size w w2) := B2
  clear o2 B2 HZ2
  go_wp2
  have q0 : (w2.cell? ⟨w.heap.size + 1 + 1, 0, none⟩).isSome = true := by rw [d0]; rfl
  have q1 : (w2.cell? ⟨w.heap.size + 1 + 1, 1, none⟩).isSome = true := by rw [d1]; rfl
  have q2 : (w2.cell? ⟨w.heap.size + 1 + 1, 2, none⟩).isSome = true := by rw [d2]; rfl
  have q3 : (w2.cell? ⟨w.heap.size + 1 + 1, 3, none⟩).isSome = true := by rw [d3]; rfl
  have q4 : (w2.cell? ⟨w.heap.size + 1 + 1, 4, none⟩).isSome = true := by rw [d4]; rfl
  have q5 : (w2.cell? ⟨w.heap.size + 1 + 1, 5, none⟩).isSome = true := by rw [d5]; rfl
  have q6 : (w2.cell? ⟨w.heap.size + 1 + 1, 6, none⟩).isSome = true := by rw [d6]; rfl
  have q7 : (w2.cell? ⟨w.heap.size + 1 + 1, 7, none⟩).isSome = true := by rw [d7]; rfl
  have q8 : (w2.cell? ⟨w.heap.size + 1 + 1, 8, none⟩).isSome = true := by rw [d8]; rfl
  have q9 : (w2.cell? ⟨w.heap.size + 1 + 1, 9, none⟩).isSome = true := by rw [d9]; rfl
  refine bodyPost_ret (v := .tuple #[.agg #[.slice a1 ws.length c1, .int .i64 semi, .int .i64 toh, .int .i64 top, .bool cyc, .int .i64 scan, .int .i64 old, .int .i64 copied, .int .i64 serial, .slice a2 rs.length c2], .bool false]) (by simp [results, Tryz.results38, go_sem, q0, q1, q2, q3, q4, q5, q6, q7, q8, q9]) rfl ⟨_, _, rfl, ?_, ?_⟩
  · obtain ⟨u1, t1, u2, t2, h1, h2, h3, h4, h5, h6, h7⟩ := HO.out
    exact ⟨u1, t1, u2, t2, by omega, by simp; omega, by omega, by simp; omega, h5, own_ten h6 (by omega), own_ten h7 (by omega)⟩
  · exact below_ten HB.out (by omega)
set_option maxHeartbeats 2000000 in
theorem implSetRoot_no1 (aw : Option Addr) (cw : Nat) (ws : List Int) (semi toh top : Int) (cyc : Bool) (scan old copied serial : Int) (ar : Option Addr) (cr : Nat) (rs : List (Int × Int)) (r t m : Int) (y : Nat → Int) (Tr : Nat) (w : World) (hs : Sl w (.slice aw ws.length cw) ws) (hcw : ws.length ≤ cw) (hn : ws.length ≤ 1048576) (hw : Words64 ws) (hrt : SlF Tr w (.slice ar rs.length cr) rs.length (2 * rs.length) (fun i => .int .i64 (y i))) (hn2 : rs.length ≤ 1048576) (hok : ArOk ws semi toh top cyc scan old copied serial y rs.length) (hr : hasR r rs.length = false) :
    Calls Tryz.prog 38 #[.agg #[.slice aw ws.length cw, .int .i64 semi, .int .i64 toh, .int .i64 top, .bool cyc, .int .i64 scan, .int .i64 old, .int .i64 copied, .int .i64 serial, .slice ar rs.length cr], .int .i64 r, .agg #[.int .i64 t, .int .i64 m]] w fun e w' => ∃ vw vr, e = .returned (.tuple #[.agg #[vw, .int .i64 semi, .int .i64 toh, .int .i64 top, .bool cyc, .int .i64 scan, .int .i64 old, .int .i64 copied, .int .i64 serial, vr], .bool false]) ∧ OwnAr w.heap.size w'.heap.size w' vw vr ws.length rs.length (wordAt ws) (y) ∧ Below w.heap.size w w' := by
  have HS : Hid (Sl w (.slice aw ws.length cw) ws) := hs
  have HR : Hid (SlF w.heap.size w (.slice ar rs.length cr) rs.length (2 * rs.length) (fun i => .int .i64 (y i))) := hrt.here
  have HQ : Hid (ArOk ws semi toh top cyc scan old copied serial y rs.length) := hok
  clear hs hrt hok
  go_enter Tryz.func38, Tryz.ntmps38
  go_wp2_with fail
  refine (clone_at _ _ _ _ _ _ _ _ _ _ _ _ _ _ y w.heap.size _ (HS.out.below (below_third (Below.refl _ _))) hn (HR.out.below (below_third (Below.refl _ _)) (Nat.le_refl _)) hn2).mono ?_
  rintro e w1 ⟨vw, vr, rfl, o1, b1⟩
  simp only [World.size_alloc] at o1
  obtain ⟨a1, c1, rfl⟩ := o1.sl.1.head
  obtain ⟨a2, c2, rfl⟩ := o1.sl.2.head
  have B1 := below_third b1
  have l1 : w.heap.size + 1 + 1 < w1.heap.size := by have := b1.size; simp at this; omega
  have l0 : w.heap.size < w1.heap.size := by omega
  have k1 : ∀ i, w1.cell? ⟨w.heap.size, i, none⟩ = (#[.slice aw ws.length cw, .int .i64 semi, .int .i64 toh, .int .i64 top, .bool cyc, .int .i64 scan, .int .i64 old, .int .i64 copied, .int .i64 serial, .slice ar rs.length cr] : Array Value)[i]? := fun i => by rw [b1.cell (p := ⟨w.heap.size, i, none⟩) (by simp <;> omega)]; simp [go_sem]
  have l2 : w.heap.size + 1 < w1.heap.size := by omega
  have v1 : ∀ i, w1.cell? ⟨w.heap.size + 1, i, none⟩ = (#[.int .i64 t, .int .i64 m] : Array Value)[i]? := fun i => by rw [b1.cell (p := ⟨w.heap.size + 1, i, none⟩) (by simp <;> omega)]; simp [go_sem]
  have hres := box_row3 (n := 10) b1 (by simp) rfl
  have Z1 : w1.rowIs (w.heap.size + 1 + 1) 30 10 (fun i => (#[.slice none 0 0, .int .i64 0, .int .i64 0, .int .i64 0, .bool false, .int .i64 0, .int .i64 0, .int .i64 0, .int .i64 0, .slice none 0 0] : Array Value).getD i (.bool false)) := hres
  have HZ1 : Hid _ := Z1
  clear b1 hres Z1
  go_wp2_with fail
  refine (implArenaOk_at _ _ _ _ _ _ _ _ _ _ _ _ _ _ y w.heap.size _ (HS.out.below (below_box B1)) hcw hn hw (HR.out.below (below_box B1) (Nat.le_refl _)) hn2).mono ?_
  rintro e w2 ⟨q, rfl, hq, b2⟩
  obtain rfl := hq.2 HQ.out
  have b2f := below_first b2
  have p2 := one_cells b2 (by simp)
  have z2 : w1.heap.size < w2.heap.size := size_first b2
  have B2 := below_next B1 b2f
  have k2 := has_below k1 b2f (by omega)
  have v2 := has_below v1 b2f (by omega)
  have o2 := o1.below b2f (by omega)
  have HZ2 : Hid (w2.rowIs (w.heap.size + 1 + 1) 30 10 (fun i => (#[.slice none 0 0, .int .i64 0, .int .i64 0, .int .i64 0, .bool false, .int .i64 0, .int .i64 0, .int .i64 0, .int .i64 0, .slice none 0 0] : Array Value).getD i (.bool false))) := World.rowIs.of_block HZ1.out (b2f.block _ (by omega))
  clear k1 b2 b2f o1 HZ1 hq B1 v1
  go_wp2_with fail
  refine (hasRoot_any _ _ _ _ _ _ _ _ _ _ _ _ _ _ _ _ hn2).mono ?_
  rintro e w3 ⟨rfl, b3⟩
  rw [show hasR r rs.length = false from hr]
  have z3 : w1.heap.size < w3.heap.size := Nat.lt_of_lt_of_le z2 b3.size
  have B3 := below_next B2 b3
  have k3 := has_below k2 b3 (by omega)
  have v3 := has_below v2 b3 (by omega)
  have p3 := has_below p2 b3 (by omega)
  have o3 := o2.below b3 (by omega)
  have HZ3 : Hid (w3.rowIs (w.heap.size + 1 + 1) 30 10 (fun i => (#[.slice none 0 0, .int .i64 0, .int .i64 0, .int .i64 0, .bool false, .int .i64 0, .int .i64 0, .int .i64 0, .int .i64 0, .slice none 0 0] : Array Value).getD i (.bool false))) := World.rowIs.of_block HZ2.out (b3.block _ (by omega))
  clear k2 p2 b3 o2 HZ2 B2 v2
  obtain ⟨d0, d1, d2, d3, d4, d5, d6, d7, d8, d9⟩ := row10 HZ3.out rfl rfl rfl rfl rfl rfl rfl rfl rfl rfl
  simp at d0 d1 d2 d3 d4 d5 d6 d7 d8 d9
  have ef := World.rowIs.frozen HZ3.out
  have HO : Hid (OwnAr (w.heap.size + 1 + 1 + 1) w1.heap.size w3 (.slice a1 ws.length c1) (.slice a2 rs.length c2) ws.length rs.length (wordAt ws) y) := o3
  have HB : Hid (Below w.heap.size w w3) := B3
  clear o3 B3 HZ3
  go_wp2
  have q0 : (w3.cell? ⟨w.heap.size + 1 + 1, 0, none⟩).isSome = true := by rw [d0]; rfl
  have q1 : (w3.cell? ⟨w.heap.size + 1 + 1, 1, none⟩).isSome = true := by rw [d1]; rfl
  have q2 : (w3.cell? ⟨w.heap.size + 1 + 1, 2, none⟩).isSome = true := by rw [d2]; rfl
  have q3 : (w3.cell? ⟨w.heap.size + 1 + 1, 3, none⟩).isSome = true := by rw [d3]; rfl
  have q4 : (w3.cell? ⟨w.heap.size + 1 + 1, 4, none⟩).isSome = true := by rw [d4]; rfl
  have q5 : (w3.cell? ⟨w.heap.size + 1 + 1, 5, none⟩).isSome = true := by rw [d5]; rfl
  have q6 : (w3.cell? ⟨w.heap.size + 1 + 1, 6, none⟩).isSome = true := by rw [d6]; rfl
  have q7 : (w3.cell? ⟨w.heap.size + 1 + 1, 7, none⟩).isSome = true := by rw [d7]; rfl
  have q8 : (w3.cell? ⟨w.heap.size + 1 + 1, 8, none⟩).isSome = true := by rw [d8]; rfl
  have q9 : (w3.cell? ⟨w.heap.size + 1 + 1, 9, none⟩).isSome = true := by rw [d9]; rfl
  refine bodyPost_ret (v := .tuple #[.agg #[.slice a1 ws.length c1, .int .i64 semi, .int .i64 toh, .int .i64 top, .bool cyc, .int .i64 scan, .int .i64 old, .int .i64 copied, .int .i64 serial, .slice a2 rs.length c2], .bool false]) (by simp [results, Tryz.results38, go_sem, q0, q1, q2, q3, q4, q5, q6, q7, q8, q9]) rfl ⟨_, _, rfl, ?_, ?_⟩
  · obtain ⟨u1, t1, u2, t2, h1, h2, h3, h4, h5, h6, h7⟩ := HO.out
    exact ⟨u1, t1, u2, t2, by omega, by simp; omega, by omega, by simp; omega, h5, own_ten h6 (by omega), own_ten h7 (by omega)⟩
  · exact below_ten HB.out (by omega)
set_option maxHeartbeats 2000000 in
theorem implSetRoot_no2 (aw : Option Addr) (cw : Nat) (ws : List Int) (semi toh top : Int) (cyc : Bool) (scan old copied serial : Int) (ar : Option Addr) (cr : Nat) (rs : List (Int × Int)) (r t m : Int) (y : Nat → Int) (Tr : Nat) (w : World) (hs : Sl w (.slice aw ws.length cw) ws) (hcw : ws.length ≤ cw) (hn : ws.length ≤ 1048576) (hw : Words64 ws) (hrt : SlF Tr w (.slice ar rs.length cr) rs.length (2 * rs.length) (fun i => .int .i64 (y i))) (hn2 : rs.length ≤ 1048576) (hok : ArOk ws semi toh top cyc scan old copied serial y rs.length) (hr : hasR r rs.length = true) (hv : vOk t m = false) :
    Calls Tryz.prog 38 #[.agg #[.slice aw ws.length cw, .int .i64 semi, .int .i64 toh, .int .i64 top, .bool cyc, .int .i64 scan, .int .i64 old, .int .i64 copied, .int .i64 serial, .slice ar rs.length cr], .int .i64 r, .agg #[.int .i64 t, .int .i64 m]] w fun e w' => ∃ vw vr, e = .returned (.tuple #[.agg #[vw, .int .i64 semi, .int .i64 toh, .int .i64 top, .bool cyc, .int .i64 scan, .int .i64 old, .int .i64 copied, .int .i64 serial, vr], .bool false]) ∧ OwnAr w.heap.size w'.heap.size w' vw vr ws.length rs.length (wordAt ws) (y) ∧ Below w.heap.size w w' := by
  have HS : Hid (Sl w (.slice aw ws.length cw) ws) := hs
  have HR : Hid (SlF w.heap.size w (.slice ar rs.length cr) rs.length (2 * rs.length) (fun i => .int .i64 (y i))) := hrt.here
  have HQ : Hid (ArOk ws semi toh top cyc scan old copied serial y rs.length) := hok
  clear hs hrt hok
  go_enter Tryz.func38, Tryz.ntmps38
  go_wp2_with fail
  refine (clone_at _ _ _ _ _ _ _ _ _ _ _ _ _ _ y w.heap.size _ (HS.out.below (below_third (Below.refl _ _))) hn (HR.out.below (below_third (Below.refl _ _)) (Nat.le_refl _)) hn2).mono ?_
  rintro e w1 ⟨vw, vr, rfl, o1, b1⟩
  simp only [World.size_alloc] at o1
  obtain ⟨a1, c1, rfl⟩ := o1.sl.1.head
  obtain ⟨a2, c2, rfl⟩ := o1.sl.2.head
  have B1 := below_third b1
  have l1 : w.heap.size + 1 + 1 < w1.heap.size := by have := b1.size; simp at this; omega
  have l0 : w.heap.size < w1.heap.size := by omega
  have k1 : ∀ i, w1.cell? ⟨w.heap.size, i, none⟩ = (#[.slice aw ws.length cw, .int .i64 semi, .int .i64 toh, .int .i64 top, .bool cyc, .int .i64 scan, .int .i64 old, .int .i64 copied, .int .i64 serial, .slice ar rs.length cr] : Array Value)[i]? := fun i => by rw [b1.cell (p := ⟨w.heap.size, i, none⟩) (by simp <;> omega)]; simp [go_sem]
  have l2 : w.heap.size + 1 < w1.heap.size := by omega
  have v1 : ∀ i, w1.cell? ⟨w.heap.size + 1, i, none⟩ = (#[.int .i64 t, .int .i64 m] : Array Value)[i]? := fun i => by rw [b1.cell (p := ⟨w.heap.size + 1, i, none⟩) (by simp <;> omega)]; simp [go_sem]
  have hres := box_row3 (n := 10) b1 (by simp) rfl
  have Z1 : w1.rowIs (w.heap.size + 1 + 1) 30 10 (fun i => (#[.slice none 0 0, .int .i64 0, .int .i64 0, .int .i64 0, .bool false, .int .i64 0, .int .i64 0, .int .i64 0, .int .i64 0, .slice none 0 0] : Array Value).getD i (.bool false)) := hres
  have HZ1 : Hid _ := Z1
  clear b1 hres Z1
  go_wp2_with fail
  refine (implArenaOk_at _ _ _ _ _ _ _ _ _ _ _ _ _ _ y w.heap.size _ (HS.out.below (below_box B1)) hcw hn hw (HR.out.below (below_box B1) (Nat.le_refl _)) hn2).mono ?_
  rintro e w2 ⟨q, rfl, hq, b2⟩
  obtain rfl := hq.2 HQ.out
  have b2f := below_first b2
  have p2 := one_cells b2 (by simp)
  have z2 : w1.heap.size < w2.heap.size := size_first b2
  have B2 := below_next B1 b2f
  have k2 := has_below k1 b2f (by omega)
  have v2 := has_below v1 b2f (by omega)
  have o2 := o1.below b2f (by omega)
  have HZ2 : Hid (w2.rowIs (w.heap.size + 1 + 1) 30 10 (fun i => (#[.slice none 0 0, .int .i64 0, .int .i64 0, .int .i64 0, .bool false, .int .i64 0, .int .i64 0, .int .i64 0, .int .i64 0, .slice none 0 0] : Array Value).getD i (.bool false))) := World.rowIs.of_block HZ1.out (b2f.block _ (by omega))
  clear k1 b2 b2f o1 HZ1 hq B1 v1
  go_wp2_with fail
  refine (hasRoot_any _ _ _ _ _ _ _ _ _ _ _ _ _ _ _ _ hn2).mono ?_
  rintro e w3 ⟨rfl, b3⟩
  rw [show hasR r rs.length = true from hr]
  have z3 : w1.heap.size < w3.heap.size := Nat.lt_of_lt_of_le z2 b3.size
  have B3 := below_next B2 b3
  have k3 := has_below k2 b3 (by omega)
  have v3 := has_below v2 b3 (by omega)
  have p3 := has_below p2 b3 (by omega)
  have o3 := o2.below b3 (by omega)
  have HZ3 : Hid (w3.rowIs (w.heap.size + 1 + 1) 30 10 (fun i => (#[.slice none 0 0, .int .i64 0, .int .i64 0, .int .i64 0, .bool false, .int .i64 0, .int .i64 0, .int .i64 0, .int .i64 0, .slice none 0 0] : Array Value).getD i (.bool false))) := World.rowIs.of_block HZ2.out (b3.block _ (by omega))
  clear k2 p2 b3 o2 HZ2 B2 v2
  go_wp2_with fail
  refine (implValOk_any _ _ _).mono ?_
  rintro e w4 ⟨rfl, b4⟩
  rw [hv]
  have z4 : w1.heap.size < w4.heap.size := Nat.lt_of_lt_of_le z3 b4.size
  have B4 := below_next B3 b4
  have k4 := has_below k3 b4 (by omega)
  have v4 := has_below v3 b4 (by omega)
  have p4 := has_below p3 b4 (by omega)
  have o4 := o3.below b4 (by omega)
  have HZ4 : Hid (w4.rowIs (w.heap.size + 1 + 1) 30 10 (fun i => (#[.slice none 0 0, .int .i64 0, .int .i64 0, .int .i64 0, .bool false, .int .i64 0, .int .i64 0, .int .i64 0, .int .i64 0, .slice none 0 0] : Array Value).getD i (.bool false))) := World.rowIs.of_block HZ3.out (b4.block _ (by omega))
  clear k3 p3 b4 o3 HZ3 B3 v3
  obtain ⟨d0, d1, d2, d3, d4, d5, d6, d7, d8, d9⟩ := row10 HZ4.out rfl rfl rfl rfl rfl rfl rfl rfl rfl rfl
  simp at d0 d1 d2 d3 d4 d5 d6 d7 d8 d9
  have ef := World.rowIs.frozen HZ4.out
  have HO : Hid (OwnAr (w.heap.size + 1 + 1 + 1) w1.heap.size w4 (.slice a1 ws.length c1) (.slice a2 rs.length c2) ws.length rs.length (wordAt ws) y) := o4
  have HB : Hid (Below w.heap.size w w4) := B4
  clear o4 B4 HZ4
  go_wp2
  have q0 : (w4.cell? ⟨w.heap.size + 1 + 1, 0, none⟩).isSome = true := by rw [d0]; rfl
  have q1 : (w4.cell? ⟨w.heap.size + 1 + 1, 1, none⟩).isSome = true := by rw [d1]; rfl
  have q2 : (w4.cell? ⟨w.heap.size + 1 + 1, 2, none⟩).isSome = true := by rw [d2]; rfl
  have q3 : (w4.cell? ⟨w.heap.size + 1 + 1, 3, none⟩).isSome = true := by rw [d3]; rfl
  have q4 : (w4.cell? ⟨w.heap.size + 1 + 1, 4, none⟩).isSome = true := by rw [d4]; rfl
  have q5 : (w4.cell? ⟨w.heap.size + 1 + 1, 5, none⟩).isSome = true := by rw [d5]; rfl
  have q6 : (w4.cell? ⟨w.heap.size + 1 + 1, 6, none⟩).isSome = true := by rw [d6]; rfl
  have q7 : (w4.cell? ⟨w.heap.size + 1 + 1, 7, none⟩).isSome = true := by rw [d7]; rfl
  have q8 : (w4.cell? ⟨w.heap.size + 1 + 1, 8, none⟩).isSome = true := by rw [d8]; rfl
  have q9 : (w4.cell? ⟨w.heap.size + 1 + 1, 9, none⟩).isSome = true := by rw [d9]; rfl
  refine bodyPost_ret (v := .tuple #[.agg #[.slice a1 ws.length c1, .int .i64 semi, .int .i64 toh, .int .i64 top, .bool cyc, .int .i64 scan, .int .i64 old, .int .i64 copied, .int .i64 serial, .slice a2 rs.length c2], .bool false]) (by simp [results, Tryz.results38, go_sem, q0, q1, q2, q3, q4, q5, q6, q7, q8, q9]) rfl ⟨_, _, rfl, ?_, ?_⟩
  · obtain ⟨u1, t1, u2, t2, h1, h2, h3, h4, h5, h6, h7⟩ := HO.out
    exact ⟨u1, t1, u2, t2, by omega, by simp; omega, by omega, by simp; omega, h5, own_ten h6 (by omega), own_ten h7 (by omega)⟩
  · exact below_ten HB.out (by omega)
set_option maxHeartbeats 2000000 in
theorem implSetRoot_no3 (aw : Option Addr) (cw : Nat) (ws : List Int) (semi toh top : Int) (cyc : Bool) (scan old copied serial : Int) (ar : Option Addr) (cr : Nat) (rs : List (Int × Int)) (r t m : Int) (y : Nat → Int) (Tr : Nat) (w : World) (hs : Sl w (.slice aw ws.length cw) ws) (hcw : ws.length ≤ cw) (hn : ws.length ≤ 1048576) (hw : Words64 ws) (hrt : SlF Tr w (.slice ar rs.length cr) rs.length (2 * rs.length) (fun i => .int .i64 (y i))) (hn2 : rs.length ≤ 1048576) (hok : ArOk ws semi toh top cyc scan old copied serial y rs.length) (hr : hasR r rs.length = true) (hv : vOk t m = true) (hi : isR t = true) :
    Calls Tryz.prog 38 #[.agg #[.slice aw ws.length cw, .int .i64 semi, .int .i64 toh, .int .i64 top, .bool cyc, .int .i64 scan, .int .i64 old, .int .i64 copied, .int .i64 serial, .slice ar rs.length cr], .int .i64 r, .agg #[.int .i64 t, .int .i64 m]] w fun e w' => ∃ vw vr, e = .returned (.tuple #[.agg #[vw, .int .i64 semi, .int .i64 toh, .int .i64 top, .bool cyc, .int .i64 scan, .int .i64 old, .int .i64 copied, .int .i64 serial, vr], .bool false]) ∧ OwnAr w.heap.size w'.heap.size w' vw vr ws.length rs.length (wordAt ws) (y) ∧ Below w.heap.size w w' := by
  have HS : Hid (Sl w (.slice aw ws.length cw) ws) := hs
  have HR : Hid (SlF w.heap.size w (.slice ar rs.length cr) rs.length (2 * rs.length) (fun i => .int .i64 (y i))) := hrt.here
  have HQ : Hid (ArOk ws semi toh top cyc scan old copied serial y rs.length) := hok
  clear hs hrt hok
  go_enter Tryz.func38, Tryz.ntmps38
  go_wp2_with fail
  refine (clone_at _ _ _ _ _ _ _ _ _ _ _ _ _ _ y w.heap.size _ (HS.out.below (below_third (Below.refl _ _))) hn (HR.out.below (below_third (Below.refl _ _)) (Nat.le_refl _)) hn2).mono ?_
  rintro e w1 ⟨vw, vr, rfl, o1, b1⟩
  simp only [World.size_alloc] at o1
  obtain ⟨a1, c1, rfl⟩ := o1.sl.1.head
  obtain ⟨a2, c2, rfl⟩ := o1.sl.2.head
  have B1 := below_third b1
  have l1 : w.heap.size + 1 + 1 < w1.heap.size := by have := b1.size; simp at this; omega
  have l0 : w.heap.size < w1.heap.size := by omega
  have k1 : ∀ i, w1.cell? ⟨w.heap.size, i, none⟩ = (#[.slice aw ws.length cw, .int .i64 semi, .int .i64 toh, .int .i64 top, .bool cyc, .int .i64 scan, .int .i64 old, .int .i64 copied, .int .i64 serial, .slice ar rs.length cr] : Array Value)[i]? := fun i => by rw [b1.cell (p := ⟨w.heap.size, i, none⟩) (by simp <;> omega)]; simp [go_sem]
  have l2 : w.heap.size + 1 < w1.heap.size := by omega
  have v1 : ∀ i, w1.cell? ⟨w.heap.size + 1, i, none⟩ = (#[.int .i64 t, .int .i64 m] : Array Value)[i]? := fun i => by rw [b1.cell (p := ⟨w.heap.size + 1, i, none⟩) (by simp <;> omega)]; simp [go_sem]
  have hres := box_row3 (n := 10) b1 (by simp) rfl
  have Z1 : w1.rowIs (w.heap.size + 1 + 1) 30 10 (fun i => (#[.slice none 0 0, .int .i64 0, .int .i64 0, .int .i64 0, .bool false, .int .i64 0, .int .i64 0, .int .i64 0, .int .i64 0, .slice none 0 0] : Array Value).getD i (.bool false)) := hres
  have HZ1 : Hid _ := Z1
  clear b1 hres Z1
  go_wp2_with fail
  refine (implArenaOk_at _ _ _ _ _ _ _ _ _ _ _ _ _ _ y w.heap.size _ (HS.out.below (below_box B1)) hcw hn hw (HR.out.below (below_box B1) (Nat.le_refl _)) hn2).mono ?_
  rintro e w2 ⟨q, rfl, hq, b2⟩
  obtain rfl := hq.2 HQ.out
  have b2f := below_first b2
  have p2 := one_cells b2 (by simp)
  have z2 : w1.heap.size < w2.heap.size := size_first b2
  have B2 := below_next B1 b2f
  have k2 := has_below k1 b2f (by omega)
  have v2 := has_below v1 b2f (by omega)
  have o2 := o1.below b2f (by omega)
  have HZ2 : Hid (w2.rowIs (w.heap.size + 1 + 1) 30 10 (fun i => (#[.slice none 0 0, .int .i64 0, .int .i64 0, .int .i64 0, .bool false, .int .i64 0, .int .i64 0, .int .i64 0, .int .i64 0, .slice none 0 0] : Array Value).getD i (.bool false))) := World.rowIs.of_block HZ1.out (b2f.block _ (by omega))
  clear k1 b2 b2f o1 HZ1 hq B1 v1
  go_wp2_with fail
  refine (hasRoot_any _ _ _ _ _ _ _ _ _ _ _ _ _ _ _ _ hn2).mono ?_
  rintro e w3 ⟨rfl, b3⟩
  rw [show hasR r rs.length = true from hr]
  have z3 : w1.heap.size < w3.heap.size := Nat.lt_of_lt_of_le z2 b3.size
  have B3 := below_next B2 b3
  have k3 := has_below k2 b3 (by omega)
  have v3 := has_below v2 b3 (by omega)
  have p3 := has_below p2 b3 (by omega)
  have o3 := o2.below b3 (by omega)
  have HZ3 : Hid (w3.rowIs (w.heap.size + 1 + 1) 30 10 (fun i => (#[.slice none 0 0, .int .i64 0, .int .i64 0, .int .i64 0, .bool false, .int .i64 0, .int .i64 0, .int .i64 0, .int .i64 0, .slice none 0 0] : Array Value).getD i (.bool false))) := World.rowIs.of_block HZ2.out (b3.block _ (by omega))
  clear k2 p2 b3 o2 HZ2 B2 v2
  go_wp2_with fail
  refine (implValOk_any _ _ _).mono ?_
  rintro e w4 ⟨rfl, b4⟩
  rw [hv]
  have z4 : w1.heap.size < w4.heap.size := Nat.lt_of_lt_of_le z3 b4.size
  have B4 := below_next B3 b4
  have k4 := has_below k3 b4 (by omega)
  have v4 := has_below v3 b4 (by omega)
  have p4 := has_below p3 b4 (by omega)
  have o4 := o3.below b4 (by omega)
  have HZ4 : Hid (w4.rowIs (w.heap.size + 1 + 1) 30 10 (fun i => (#[.slice none 0 0, .int .i64 0, .int .i64 0, .int .i64 0, .bool false, .int .i64 0, .int .i64 0, .int .i64 0, .int .i64 0, .slice none 0 0] : Array Value).getD i (.bool false))) := World.rowIs.of_block HZ3.out (b4.block _ (by omega))
  clear k3 p3 b4 o3 HZ3 B3 v3
  go_wp2_with fail
  refine (implIsRef_any _ _ _).mono ?_
  rintro e w5 ⟨rfl, b5⟩
  rw [hi]
  have z5 : w1.heap.size < w5.heap.size := Nat.lt_of_lt_of_le z4 b5.size
  have B5 := below_next B4 b5
  have k5 := has_below k4 b5 (by omega)
  have v5 := has_below v4 b5 (by omega)
  have p5 := has_below p4 b5 (by omega)
  have o5 := o4.below b5 (by omega)
  have HZ5 : Hid (w5.rowIs (w.heap.size + 1 + 1) 30 10 (fun i => (#[.slice none 0 0, .int .i64 0, .int .i64 0, .int .i64 0, .bool false, .int .i64 0, .int .i64 0, .int .i64 0, .int .i64 0, .slice none 0 0] : Array Value).getD i (.bool false))) := World.rowIs.of_block HZ4.out (b5.block _ (by omega))
  clear k4 p4 b5 o4 HZ4 B4 v4
  obtain ⟨d0, d1, d2, d3, d4, d5, d6, d7, d8, d9⟩ := row10 HZ5.out rfl rfl rfl rfl rfl rfl rfl rfl rfl rfl
  simp at d0 d1 d2 d3 d4 d5 d6 d7 d8 d9
  have ef := World.rowIs.frozen HZ5.out
  have HO : Hid (OwnAr (w.heap.size + 1 + 1 + 1) w1.heap.size w5 (.slice a1 ws.length c1) (.slice a2 rs.length c2) ws.length rs.length (wordAt ws) y) := o5
  have HB : Hid (Below w.heap.size w w5) := B5
  clear o5 B5 HZ5
  go_wp2
  have q0 : (w5.cell? ⟨w.heap.size + 1 + 1, 0, none⟩).isSome = true := by rw [d0]; rfl
  have q1 : (w5.cell? ⟨w.heap.size + 1 + 1, 1, none⟩).isSome = true := by rw [d1]; rfl
  have q2 : (w5.cell? ⟨w.heap.size + 1 + 1, 2, none⟩).isSome = true := by rw [d2]; rfl
  have q3 : (w5.cell? ⟨w.heap.size + 1 + 1, 3, none⟩).isSome = true := by rw [d3]; rfl
  have q4 : (w5.cell? ⟨w.heap.size + 1 + 1, 4, none⟩).isSome = true := by rw [d4]; rfl
  have q5 : (w5.cell? ⟨w.heap.size + 1 + 1, 5, none⟩).isSome = true := by rw [d5]; rfl
  have q6 : (w5.cell? ⟨w.heap.size + 1 + 1, 6, none⟩).isSome = true := by rw [d6]; rfl
  have q7 : (w5.cell? ⟨w.heap.size + 1 + 1, 7, none⟩).isSome = true := by rw [d7]; rfl
  have q8 : (w5.cell? ⟨w.heap.size + 1 + 1, 8, none⟩).isSome = true := by rw [d8]; rfl
  have q9 : (w5.cell? ⟨w.heap.size + 1 + 1, 9, none⟩).isSome = true := by rw [d9]; rfl
  refine bodyPost_ret (v := .tuple #[.agg #[.slice a1 ws.length c1, .int .i64 semi, .int .i64 toh, .int .i64 top, .bool cyc, .int .i64 scan, .int .i64 old, .int .i64 copied, .int .i64 serial, .slice a2 rs.length c2], .bool false]) (by simp [results, Tryz.results38, go_sem, q0, q1, q2, q3, q4, q5, q6, q7, q8, q9]) rfl ⟨_, _, rfl, ?_, ?_⟩
  · obtain ⟨u1, t1, u2, t2, h1, h2, h3, h4, h5, h6, h7⟩ := HO.out
    exact ⟨u1, t1, u2, t2, by omega, by simp; omega, by omega, by simp; omega, h5, own_ten h6 (by omega), own_ten h7 (by omega)⟩
  · exact below_ten HB.out (by omega)
set_option maxHeartbeats 2000000 in
theorem implSetRoot_yes (aw : Option Addr) (cw : Nat) (ws : List Int) (semi toh top : Int) (cyc : Bool) (scan old copied serial : Int) (ar : Option Addr) (cr : Nat) (rs : List (Int × Int)) (r : Nat) (t m : Int) (y : Nat → Int) (Tr : Nat) (w : World) (hs : Sl w (.slice aw ws.length cw) ws) (hcw : ws.length ≤ cw) (hn : ws.length ≤ 1048576) (hw : Words64 ws) (hrt : SlF Tr w (.slice ar rs.length cr) rs.length (2 * rs.length) (fun i => .int .i64 (y i))) (hn2 : rs.length ≤ 1048576) (hok : ArOk ws semi toh top cyc scan old copied serial y rs.length) (hr : r < rs.length) (hv : vOk t m = true) (hi : isR t = false) :
    Calls Tryz.prog 38 #[.agg #[.slice aw ws.length cw, .int .i64 semi, .int .i64 toh, .int .i64 top, .bool cyc, .int .i64 scan, .int .i64 old, .int .i64 copied, .int .i64 serial, .slice ar rs.length cr], .int .i64 r, .agg #[.int .i64 t, .int .i64 m]] w fun e w' => ∃ vw vr, e = .returned (.tuple #[.agg #[vw, .int .i64 semi, .int .i64 toh, .int .i64 top, .bool cyc, .int .i64 scan, .int .i64 old, .int .i64 copied, .int .i64 serial, vr], .bool true]) ∧ OwnAr w.heap.size w'.heap.size w' vw vr ws.length rs.length (wordAt ws) (putY y r t m) ∧ Below w.heap.size w w' := by
  have HS : Hid (Sl w (.slice aw ws.length cw) ws) := hs
  have HR : Hid (SlF w.heap.size w (.slice ar rs.length cr) rs.length (2 * rs.length) (fun i => .int .i64 (y i))) := hrt.here
  have HQ : Hid (ArOk ws semi toh top cyc scan old copied serial y rs.length) := hok
  clear hs hrt hok
  go_enter Tryz.func38, Tryz.ntmps38
  go_wp2_with fail
  refine (clone_at _ _ _ _ _ _ _ _ _ _ _ _ _ _ y w.heap.size _ (HS.out.below (below_third (Below.refl _ _))) hn (HR.out.below (below_third (Below.refl _ _)) (Nat.le_refl _)) hn2).mono ?_
  rintro e w1 ⟨vw, vr, rfl, o1, b1⟩
  simp only [World.size_alloc] at o1
  obtain ⟨a1, c1, rfl⟩ := o1.sl.1.head
  obtain ⟨a2, c2, rfl⟩ := o1.sl.2.head
  have B1 := below_third b1
  have l1 : w.heap.size + 1 + 1 < w1.heap.size := by have := b1.size; simp at this; omega
  have l0 : w.heap.size < w1.heap.size := by omega
  have k1 : ∀ i, w1.cell? ⟨w.heap.size, i, none⟩ = (#[.slice aw ws.length cw, .int .i64 semi, .int .i64 toh, .int .i64 top, .bool cyc, .int .i64 scan, .int .i64 old, .int .i64 copied, .int .i64 serial, .slice ar rs.length cr] : Array Value)[i]? := fun i => by rw [b1.cell (p := ⟨w.heap.size, i, none⟩) (by simp <;> omega)]; simp [go_sem]
  have l2 : w.heap.size + 1 < w1.heap.size := by omega
  have v1 : ∀ i, w1.cell? ⟨w.heap.size + 1, i, none⟩ = (#[.int .i64 t, .int .i64 m] : Array Value)[i]? := fun i => by rw [b1.cell (p := ⟨w.heap.size + 1, i, none⟩) (by simp <;> omega)]; simp [go_sem]
  have hres := box_row3 (n := 10) b1 (by simp) rfl
  have Z1 : w1.rowIs (w.heap.size + 1 + 1) 30 10 (fun i => (#[.slice none 0 0, .int .i64 0, .int .i64 0, .int .i64 0, .bool false, .int .i64 0, .int .i64 0, .int .i64 0, .int .i64 0, .slice none 0 0] : Array Value).getD i (.bool false)) := hres
  have HZ1 : Hid _ := Z1
  clear b1 hres Z1
  go_wp2_with fail
  refine (implArenaOk_at _ _ _ _ _ _ _ _ _ _ _ _ _ _ y w.heap.size _ (HS.out.below (below_box B1)) hcw hn hw (HR.out.below (below_box B1) (Nat.le_refl _)) hn2).mono ?_
  rintro e w2 ⟨q, rfl, hq, b2⟩
  obtain rfl := hq.2 HQ.out
  have b2f := below_first b2
  have p2 := one_cells b2 (by simp)
  have z2 : w1.heap.size < w2.heap.size := size_first b2
  have B2 := below_next B1 b2f
  have k2 := has_below k1 b2f (by omega)
  have v2 := has_below v1 b2f (by omega)
  have o2 := o1.below b2f (by omega)
  have HZ2 : Hid (w2.rowIs (w.heap.size + 1 + 1) 30 10 (fun i => (#[.slice none 0 0, .int .i64 0, .int .i64 0, .int .i64 0, .bool false, .int .i64 0, .int .i64 0, .int .i64 0, .int .i64 0, .slice none 0 0] : Array Value).getD i (.bool false))) := World.rowIs.of_block HZ1.out (b2f.block _ (by omega))
  clear k1 b2 b2f o1 HZ1 hq B1 v1
  go_wp2_with fail
  refine (hasRoot_any _ _ _ _ _ _ _ _ _ _ _ _ _ _ _ _ hn2).mono ?_
  rintro e w3 ⟨rfl, b3⟩
  rw [show hasR (r : Int) rs.length = true from decide_eq_true ⟨by omega, by omega⟩]
  have z3 : w1.heap.size < w3.heap.size := Nat.lt_of_lt_of_le z2 b3.size
  have B3 := below_next B2 b3
  have k3 := has_below k2 b3 (by omega)
  have v3 := has_below v2 b3 (by omega)
  have p3 := has_below p2 b3 (by omega)
  have o3 := o2.below b3 (by omega)
  have HZ3 : Hid (w3.rowIs (w.heap.size + 1 + 1) 30 10 (fun i => (#[.slice none 0 0, .int .i64 0, .int .i64 0, .int .i64 0, .bool false, .int .i64 0, .int .i64 0, .int .i64 0, .int .i64 0, .slice none 0 0] : Array Value).getD i (.bool false))) := World.rowIs.of_block HZ2.out (b3.block _ (by omega))
  clear k2 p2 b3 o2 HZ2 B2 v2
  go_wp2_with fail
  refine (implValOk_any _ _ _).mono ?_
  rintro e w4 ⟨rfl, b4⟩
  rw [hv]
  have z4 : w1.heap.size < w4.heap.size := Nat.lt_of_lt_of_le z3 b4.size
  have B4 := below_next B3 b4
  have k4 := has_below k3 b4 (by omega)
  have v4 := has_below v3 b4 (by omega)
  have p4 := has_below p3 b4 (by omega)
  have o4 := o3.below b4 (by omega)
  have HZ4 : Hid (w4.rowIs (w.heap.size + 1 + 1) 30 10 (fun i => (#[.slice none 0 0, .int .i64 0, .int .i64 0, .int .i64 0, .bool false, .int .i64 0, .int .i64 0, .int .i64 0, .int .i64 0, .slice none 0 0] : Array Value).getD i (.bool false))) := World.rowIs.of_block HZ3.out (b4.block _ (by omega))
  clear k3 p3 b4 o3 HZ3 B3 v3
  go_wp2_with fail
  refine (implIsRef_any _ _ _).mono ?_
  rintro e w5 ⟨rfl, b5⟩
  rw [hi]
  have z5 : w1.heap.size < w5.heap.size := Nat.lt_of_lt_of_le z4 b5.size
  have B5 := below_next B4 b5
  have k5 := has_below k4 b5 (by omega)
  have v5 := has_below v4 b5 (by omega)
  have p5 := has_below p4 b5 (by omega)
  have o5 := o4.below b5 (by omega)
  have HZ5 : Hid (w5.rowIs (w.heap.size + 1 + 1) 30 10 (fun i => (#[.slice none 0 0, .int .i64 0, .int .i64 0, .int .i64 0, .bool false, .int .i64 0, .int .i64 0, .int .i64 0, .int .i64 0, .slice none 0 0] : Array Value).getD i (.bool false))) := World.rowIs.of_block HZ4.out (b5.block _ (by omega))
  clear k4 p4 b5 o4 HZ4 B4 v4
  obtain ⟨d0, d1, d2, d3, d4, d5, d6, d7, d8, d9⟩ := row10 HZ5.out rfl rfl rfl rfl rfl rfl rfl rfl rfl rfl
  simp at d0 d1 d2 d3 d4 d5 d6 d7 d8 d9
  have ef := World.rowIs.frozen HZ5.out
  obtain ⟨u1, t1, u2, t2, h1, h2, h3, h4, h5, h6, h7⟩ := o5
  obtain ⟨a2', c2', he, h7⟩ := h7
  simp only [Value.slice.injEq] at he
  obtain ⟨rfl, _, rfl⟩ := he
  rcases h7 with h7 | ⟨g, M, fn, rfl, hg1, hg2, hM, hrow, hfn⟩
  · omega
  have x0 : w5.cell? ⟨g, r * 2, none⟩ = some (.int .i64 (y (2 * r))) := by rw [hrow.cell (by omega), hfn _ (by omega), Nat.mul_comm]
  have x1 : w5.cell? ⟨g, r * 2 + 1, none⟩ = some (.int .i64 (y (2 * r + 1))) := by rw [hrow.cell (by omega), hfn _ (by omega), Nat.mul_comm]
  have ff := hrow.frozen
  have hr' : (r : Int) < (rs.length : Int) := by omega
  have n1 : g ≠ w.heap.size + 1 + 1 := by omega
  have n2 : w.heap.size + 1 + 1 ≠ g := by omega
  have n3 : g ≠ w1.heap.size := by omega
  have n4 : w1.heap.size ≠ g := by omega
  have n5 : g ≠ w.heap.size + 1 := by omega
  have n6 : w.heap.size + 1 ≠ g := by omega
  have HRW : Hid (w5.rowIs g 50 M fn) := hrow
  have HFN : Hid (∀ i, i < 2 * rs.length → fn i = .int .i64 (y i)) := hfn
  have HOW : Hid (OwnF u1 t1 93 w5 (.slice a1 ws.length c1) ws.length ws.length (fun i => .int .u64 (wordAt ws i))) := h6
  have HB : Hid (Below w.heap.size w w5) := B5
  have HN : Hid (w.heap.size + 1 + 1 + 1 ≤ u1 ∧ t1 ≤ w1.heap.size ∧ w.heap.size + 1 + 1 + 1 ≤ u2 ∧ t2 ≤ w1.heap.size ∧ (t1 ≤ u2 ∨ t2 ≤ u1) ∧ u2 ≤ g ∧ g < t2 ∧ 2 * rs.length ≤ M ∧ w1.heap.size < w5.heap.size) := ⟨h1, h2, h3, h4, h5, hg1, hg2, hM, z5⟩
  clear h1 h2 h3 h4 h5 h6 hg1 hg2 hM hrow hfn HZ5 B5
  go_wp2_with fail
  first | go_region | skip
  all_goals
    go_wp2
    have q0 : (w5.cell? ⟨w.heap.size + 1 + 1, 0, none⟩).isSome = true := by rw [d0]; rfl
    have q1 : (w5.cell? ⟨w.heap.size + 1 + 1, 1, none⟩).isSome = true := by rw [d1]; rfl
    have q2 : (w5.cell? ⟨w.heap.size + 1 + 1, 2, none⟩).isSome = true := by rw [d2]; rfl
    have q3 : (w5.cell? ⟨w.heap.size + 1 + 1, 3, none⟩).isSome = true := by rw [d3]; rfl
    have q4 : (w5.cell? ⟨w.heap.size + 1 + 1, 4, none⟩).isSome = true := by rw [d4]; rfl
    have q5 : (w5.cell? ⟨w.heap.size + 1 + 1, 5, none⟩).isSome = true := by rw [d5]; rfl
    have q6 : (w5.cell? ⟨w.heap.size + 1 + 1, 6, none⟩).isSome = true := by rw [d6]; rfl
    have q7 : (w5.cell? ⟨w.heap.size + 1 + 1, 7, none⟩).isSome = true := by rw [d7]; rfl
    have q8 : (w5.cell? ⟨w.heap.size + 1 + 1, 8, none⟩).isSome = true := by rw [d8]; rfl
    have q9 : (w5.cell? ⟨w.heap.size + 1 + 1, 9, none⟩).isSome = true := by rw [d9]; rfl
    refine bodyPost_ret (v := .tuple #[.agg #[.slice a1 ws.length c1, .int .i64 semi, .int .i64 toh, .int .i64 top, .bool cyc, .int .i64 scan, .int .i64 old, .int .i64 copied, .int .i64 serial, .slice (some ⟨g, 0, none⟩) rs.length c2], .bool true]) (by simp [results, Tryz.results38, go_sem, q0, q1, q2, q3, q4, q5, q6, q7, q8, q9, n1, n2, n3, n4]) rfl ⟨_, _, rfl, ?_, ?_⟩
    · obtain ⟨h1, h2, h3, h4, h5, hg1, hg2, hM, z5⟩ := HN.out
      refine ⟨u1, t1, u2, t2, by omega, by simp; omega, by omega, by simp; omega, h5, ?_, ?_⟩
      · refine own_ten (k := w.heap.size + 1 + 1) (HOW.out.block (w' := (w5.setCell ⟨g, r * 2, none⟩ (.int .i64 t)).setCell ⟨g, r * 2 + 1, none⟩ (.int .i64 m)) fun k hk hk' => ?_) (by omega)
        rw [Below.heap_setCell _ _ _ _ (by show k ≠ g; omega), Below.heap_setCell _ _ _ _ (by show k ≠ g; omega)]
      · exact own_ten (k := w.heap.size + 1 + 1) (ownV_put HRW.out HFN.out hg1 hg2 hM _ _) (by omega)
    · obtain ⟨h1, h2, h3, h4, h5, hg1, hg2, hM, z5⟩ := HN.out
      exact below_ten ((HB.out.setCell (p := ⟨g, r * 2, none⟩) (by show w.heap.size ≤ g; omega) _).setCell (p := ⟨g, r * 2 + 1, none⟩) (by show w.heap.size ≤ g; omega) _) (by omega)
end Go.Proofs.YtaapiedminakcaaGreat
