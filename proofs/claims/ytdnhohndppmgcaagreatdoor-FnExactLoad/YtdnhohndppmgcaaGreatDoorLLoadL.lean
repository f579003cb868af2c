/- - -/
import Derived.Test.YtdnhohndppmgcaaGreatDoorLLoI
namespace Go.Proofs.YtdnhohndppmgcaaGreatDoor
set_option maxRecDepth 20000
open Go.RowKit
set_option linter.unusedSimpArgs false
set_option linter.unusedVariables false
set_option maxHeartbeats 2000000 in
theorem zob (aw : Option Addr) (cw : Nat) (ws : List Int) (sm toh top : Int) (cyc : Bool) (sn old cp sr : Int) (ar : Option Addr) (cr : Nat) (rs : List (Int × Int)) (r sl f : Int) (y : Nat -> Int) (Tr : Nat) (w : World) (hs : Sl w (.slice aw ws.length cw) ws) (hn : ws.length <= 1048576) (hw : zg ws) (hrt : SlF Tr w (.slice ar rs.length cr) rs.length (2 * rs.length) (fun i => .int .i64 (y i))) (hn2 : rs.length <= 1048576) (hok : ¬ zbm ws sm toh top cyc sn old cp sr y rs.length) :
 Calls Tryz.prog 12 #[.agg #[.slice aw ws.length cw, .int .i64 sm, .int .i64 toh, .int .i64 top, .bool cyc, .int .i64 sn, .int .i64 old, .int .i64 cp, .int .i64 sr, .slice ar rs.length cr], .int .i64 r, .int .i64 sl, .int .i64 f] w fun e w' => ∃ vw vr, e = .returned (.tuple #[.agg #[vw, .int .i64 sm, .int .i64 toh, .int .i64 top, .bool cyc, .int .i64 sn, .int .i64 old, .int .i64 cp, .int .i64 sr, vr], .bool false]) /\ zak w.heap.size w'.heap.size w' vw vr ws.length rs.length (za ws) (y) /\ Below w.heap.size w w' := by
 have HS : Hid (Sl w (.slice aw ws.length cw) ws) := hs
 have HR : Hid (SlF w.heap.size w (.slice ar rs.length cr) rs.length (2 * rs.length) (fun i => .int .i64 (y i))) := hrt.here
 have HQ : Hid (¬ zbm ws sm toh top cyc sn old cp sr y rs.length) := hok
 clear hs hrt hok
 go_enter Tryz.func12, Tryz.ntmps12
 go_wp2_with fail
 refine (zec _ _ _ _ _ _ _ _ _ _ _ _ _ _ y w.heap.size _ (HS.out.below (zk (Below.refl _ _))) hn (HR.out.below (zk (Below.refl _ _)) (Nat.le_refl _)) hn2).mono ?_
 rintro e w1 ⟨vw, vr, rfl, o1, b1⟩
 simp only [World.size_alloc] at o1
 obtain ⟨a1, c1, rfl⟩ := o1.sl.1.head
 obtain ⟨a2, c2, rfl⟩ := o1.sl.2.head
 have B1 := zk b1
 have l1 : w.heap.size + 1 < w1.heap.size := by have := b1.size; simp at this; omega
 have l0 : w.heap.size < w1.heap.size := by omega
 have k1 : ∀ i, w1.cell? ⟨w.heap.size, i, none⟩ = (#[.slice aw ws.length cw, .int .i64 sm, .int .i64 toh, .int .i64 top, .bool cyc, .int .i64 sn, .int .i64 old, .int .i64 cp, .int .i64 sr, .slice ar rs.length cr] : Array Value)[i]? := fun i => by rw [b1.cell (p := ⟨w.heap.size, i, none⟩) (by simp <;> omega)]; simp [go_sem]
 obtain ⟨_, hres⟩ := zc9 (n := 10) b1 (by simp) rfl rfl
 have Z1 : w1.rowIs (w.heap.size + 1) 29 10 (fun i => (#[.slice none 0 0, .int .i64 0, .int .i64 0, .int .i64 0, .bool false, .int .i64 0, .int .i64 0, .int .i64 0, .int .i64 0, .slice none 0 0] : Array Value).getD i (.bool false)) := hres
 have HZ1 : Hid _ := Z1
 clear b1 hres Z1
 go_wp2_with fail
 refine (zcj _ _ _ _ _ _ _ _ _ _ _ _ _ _ y w.heap.size _ (HS.out.below (zam B1)) hn hw (HR.out.below (zam B1) (Nat.le_refl _)) hn2).mono ?_
 rintro e w2 ⟨q, rfl, hq, b2⟩
 obtain rfl : q = false := by
  cases q with
  | false => rfl
  | true => exact absurd (hq.1 rfl) HQ.out
 have b2f := ze b2
 have p2 := zp b2 (by simp)
 have z2 : w1.heap.size < w2.heap.size := zr b2
 have B2 := zc B1 b2f
 have k2 := zd k1 b2f (by omega)
 have o2 := o1.below b2f (by omega)
 have HZ2 : Hid (w2.rowIs (w.heap.size + 1) 29 10 (fun i => (#[.slice none 0 0, .int .i64 0, .int .i64 0, .int .i64 0, .bool false, .int .i64 0, .int .i64 0, .int .i64 0, .int .i64 0, .slice none 0 0] : Array Value).getD i (.bool false))) := World.rowIs.of_block HZ1.out (b2f.block _ (by omega))
 clear k1 b2 b2f o1 HZ1 hq B1
 obtain ⟨d0, d1, d2, d3, d4, d5, d6, d7, d8, d9⟩ := zce HZ2.out rfl rfl rfl rfl rfl rfl rfl rfl rfl rfl
 simp at d0 d1 d2 d3 d4 d5 d6 d7 d8 d9
 have ef := World.rowIs.frozen HZ2.out
 have HO : Hid (zak (w.heap.size + 1 + 1) w1.heap.size w2 (.slice a1 ws.length c1) (.slice a2 rs.length c2) ws.length rs.length (za ws) y) := o2
 have HB : Hid (Below w.heap.size w w2) := B2
 clear o2 B2 HZ2
 go_wp2
 have q0 : (w2.cell? ⟨w.heap.size + 1, 0, none⟩).isSome = true := by rw [d0]; rfl
 have q1 : (w2.cell? ⟨w.heap.size + 1, 1, none⟩).isSome = true := by rw [d1]; rfl
 have q2 : (w2.cell? ⟨w.heap.size + 1, 2, none⟩).isSome = true := by rw [d2]; rfl
 have q3 : (w2.cell? ⟨w.heap.size + 1, 3, none⟩).isSome = true := by rw [d3]; rfl
 have q4 : (w2.cell? ⟨w.heap.size + 1, 4, none⟩).isSome = true := by rw [d4]; rfl
 have q5 : (w2.cell? ⟨w.heap.size + 1, 5, none⟩).isSome = true := by rw [d5]; rfl
 have q6 : (w2.cell? ⟨w.heap.size + 1, 6, none⟩).isSome = true := by rw [d6]; rfl
 have q7 : (w2.cell? ⟨w.heap.size + 1, 7, none⟩).isSome = true := by rw [d7]; rfl
 have q8 : (w2.cell? ⟨w.heap.size + 1, 8, none⟩).isSome = true := by rw [d8]; rfl
 have q9 : (w2.cell? ⟨w.heap.size + 1, 9, none⟩).isSome = true := by rw [d9]; rfl
 refine bodyPost_ret (v := .tuple #[.agg #[.slice a1 ws.length c1, .int .i64 sm, .int .i64 toh, .int .i64 top, .bool cyc, .int .i64 sn, .int .i64 old, .int .i64 cp, .int .i64 sr, .slice a2 rs.length c2], .bool false]) (by simp [results, Tryz.results12, go_sem, q0, q1, q2, q3, q4, q5, q6, q7, q8, q9]) rfl ⟨_, _, rfl, ?_, ?_⟩
 · obtain ⟨u1, t1, u2, t2, h1, h2, h3, h4, h5, h6, h7⟩ := HO.out
   exact ⟨u1, t1, u2, t2, by omega, by simp; omega, by omega, by simp; omega, h5, za9 h6 (by omega), za9 h7 (by omega)⟩
 · exact zbo HB.out (by omega)
set_option maxHeartbeats 2000000 in
theorem zoc (aw : Option Addr) (cw : Nat) (ws : List Int) (sm toh top : Int) (cyc : Bool) (sn old cp sr : Int) (ar : Option Addr) (cr : Nat) (rs : List (Int × Int)) (r sl f : Int) (y : Nat -> Int) (Tr : Nat) (w : World) (hs : Sl w (.slice aw ws.length cw) ws) (hn : ws.length <= 1048576) (hw : zg ws) (hrt : SlF Tr w (.slice ar rs.length cr) rs.length (2 * rs.length) (fun i => .int .i64 (y i))) (hn2 : rs.length <= 1048576) (hok : zbm ws sm toh top cyc sn old cp sr y rs.length) (hr : zbf r rs.length = false) :
 Calls Tryz.prog 12 #[.agg #[.slice aw ws.length cw, .int .i64 sm, .int .i64 toh, .int .i64 top, .bool cyc, .int .i64 sn, .int .i64 old, .int .i64 cp, .int .i64 sr, .slice ar rs.length cr], .int .i64 r, .int .i64 sl, .int .i64 f] w fun e w' => ∃ vw vr, e = .returned (.tuple #[.agg #[vw, .int .i64 sm, .int .i64 toh, .int .i64 top, .bool cyc, .int .i64 sn, .int .i64 old, .int .i64 cp, .int .i64 sr, vr], .bool false]) /\ zak w.heap.size w'.heap.size w' vw vr ws.length rs.length (za ws) (y) /\ Below w.heap.size w w' := by
 have HS : Hid (Sl w (.slice aw ws.length cw) ws) := hs
 have HR : Hid (SlF w.heap.size w (.slice ar rs.length cr) rs.length (2 * rs.length) (fun i => .int .i64 (y i))) := hrt.here
 have HQ : Hid (zbm ws sm toh top cyc sn old cp sr y rs.length) := hok
 clear hs hrt hok
 go_enter Tryz.func12, Tryz.ntmps12
 go_wp2_with fail
 refine (zec _ _ _ _ _ _ _ _ _ _ _ _ _ _ y w.heap.size _ (HS.out.below (zk (Below.refl _ _))) hn (HR.out.below (zk (Below.refl _ _)) (Nat.le_refl _)) hn2).mono ?_
 rintro e w1 ⟨vw, vr, rfl, o1, b1⟩
 simp only [World.size_alloc] at o1
 obtain ⟨a1, c1, rfl⟩ := o1.sl.1.head
 obtain ⟨a2, c2, rfl⟩ := o1.sl.2.head
 have B1 := zk b1
 have l1 : w.heap.size + 1 < w1.heap.size := by have := b1.size; simp at this; omega
 have l0 : w.heap.size < w1.heap.size := by omega
 have k1 : ∀ i, w1.cell? ⟨w.heap.size, i, none⟩ = (#[.slice aw ws.length cw, .int .i64 sm, .int .i64 toh, .int .i64 top, .bool cyc, .int .i64 sn, .int .i64 old, .int .i64 cp, .int .i64 sr, .slice ar rs.length cr] : Array Value)[i]? := fun i => by rw [b1.cell (p := ⟨w.heap.size, i, none⟩) (by simp <;> omega)]; simp [go_sem]
 obtain ⟨_, hres⟩ := zc9 (n := 10) b1 (by simp) rfl rfl
 have Z1 : w1.rowIs (w.heap.size + 1) 29 10 (fun i => (#[.slice none 0 0, .int .i64 0, .int .i64 0, .int .i64 0, .bool false, .int .i64 0, .int .i64 0, .int .i64 0, .int .i64 0, .slice none 0 0] : Array Value).getD i (.bool false)) := hres
 have HZ1 : Hid _ := Z1
 clear b1 hres Z1
 go_wp2_with fail
 refine (zcj _ _ _ _ _ _ _ _ _ _ _ _ _ _ y w.heap.size _ (HS.out.below (zam B1)) hn hw (HR.out.below (zam B1) (Nat.le_refl _)) hn2).mono ?_
 rintro e w2 ⟨q, rfl, hq, b2⟩
 obtain rfl := hq.2 HQ.out
 have b2f := ze b2
 have p2 := zp b2 (by simp)
 have z2 : w1.heap.size < w2.heap.size := zr b2
 have B2 := zc B1 b2f
 have k2 := zd k1 b2f (by omega)
 have o2 := o1.below b2f (by omega)
 have HZ2 : Hid (w2.rowIs (w.heap.size + 1) 29 10 (fun i => (#[.slice none 0 0, .int .i64 0, .int .i64 0, .int .i64 0, .bool false, .int .i64 0, .int .i64 0, .int .i64 0, .int .i64 0, .slice none 0 0] : Array Value).getD i (.bool false))) := World.rowIs.of_block HZ1.out (b2f.block _ (by omega))
 clear k1 b2 b2f o1 HZ1 hq B1
 go_wp2_with fail
 refine (zb8 _ _ _ _ _ _ _ _ _ _ _ _ _ _ _ _ hn2).mono ?_
 rintro e w3 ⟨rfl, b3⟩
 rw [show zbf r rs.length = false from hr]
 have z3 : w1.heap.size < w3.heap.size := Nat.lt_of_lt_of_le z2 b3.size
 have B3 := zc B2 b3
 have k3 := zd k2 b3 (by omega)
 have p3 := zd p2 b3 (by omega)
 have o3 := o2.below b3 (by omega)
 have HZ3 : Hid (w3.rowIs (w.heap.size + 1) 29 10 (fun i => (#[.slice none 0 0, .int .i64 0, .int .i64 0, .int .i64 0, .bool false, .int .i64 0, .int .i64 0, .int .i64 0, .int .i64 0, .slice none 0 0] : Array Value).getD i (.bool false))) := World.rowIs.of_block HZ2.out (b3.block _ (by omega))
 clear k2 p2 b3 o2 HZ2 B2
 obtain ⟨d0, d1, d2, d3, d4, d5, d6, d7, d8, d9⟩ := zce HZ3.out rfl rfl rfl rfl rfl rfl rfl rfl rfl rfl
 simp at d0 d1 d2 d3 d4 d5 d6 d7 d8 d9
 have ef := World.rowIs.frozen HZ3.out
 have HO : Hid (zak (w.heap.size + 1 + 1) w1.heap.size w3 (.slice a1 ws.length c1) (.slice a2 rs.length c2) ws.length rs.length (za ws) y) := o3
 have HB : Hid (Below w.heap.size w w3) := B3
 clear o3 B3 HZ3
 go_wp2
 have q0 : (w3.cell? ⟨w.heap.size + 1, 0, none⟩).isSome = true := by rw [d0]; rfl
 have q1 : (w3.cell? ⟨w.heap.size + 1, 1, none⟩).isSome = true := by rw [d1]; rfl
 have q2 : (w3.cell? ⟨w.heap.size + 1, 2, none⟩).isSome = true := by rw [d2]; rfl
 have q3 : (w3.cell? ⟨w.heap.size + 1, 3, none⟩).isSome = true := by rw [d3]; rfl
 have q4 : (w3.cell? ⟨w.heap.size + 1, 4, none⟩).isSome = true := by rw [d4]; rfl
 have q5 : (w3.cell? ⟨w.heap.size + 1, 5, none⟩).isSome = true := by rw [d5]; rfl
 have q6 : (w3.cell? ⟨w.heap.size + 1, 6, none⟩).isSome = true := by rw [d6]; rfl
 have q7 : (w3.cell? ⟨w.heap.size + 1, 7, none⟩).isSome = true := by rw [d7]; rfl
 have q8 : (w3.cell? ⟨w.heap.size + 1, 8, none⟩).isSome = true := by rw [d8]; rfl
 have q9 : (w3.cell? ⟨w.heap.size + 1, 9, none⟩).isSome = true := by rw [d9]; rfl
 refine bodyPost_ret (v := .tuple #[.agg #[.slice a1 ws.length c1, .int .i64 sm, .int .i64 toh, .int .i64 top, .bool cyc, .int .i64 sn, .int .i64 old, .int .i64 cp, .int .i64 sr, .slice a2 rs.length c2], .bool false]) (by simp [results, Tryz.results12, go_sem, q0, q1, q2, q3, q4, q5, q6, q7, q8, q9]) rfl ⟨_, _, rfl, ?_, ?_⟩
 · obtain ⟨u1, t1, u2, t2, h1, h2, h3, h4, h5, h6, h7⟩ := HO.out
   exact ⟨u1, t1, u2, t2, by omega, by simp; omega, by omega, by simp; omega, h5, za9 h6 (by omega), za9 h7 (by omega)⟩
 · exact zbo HB.out (by omega)
set_option maxHeartbeats 2000000 in
theorem zod (aw : Option Addr) (cw : Nat) (ws : List Int) (sm toh top : Int) (cyc : Bool) (sn old cp sr : Int) (ar : Option Addr) (cr : Nat) (rs : List (Int × Int)) (r sl f : Int) (y : Nat -> Int) (Tr : Nat) (w : World) (hs : Sl w (.slice aw ws.length cw) ws) (hn : ws.length <= 1048576) (hw : zg ws) (hrt : SlF Tr w (.slice ar rs.length cr) rs.length (2 * rs.length) (fun i => .int .i64 (y i))) (hn2 : rs.length <= 1048576) (hok : zbm ws sm toh top cyc sn old cp sr y rs.length) (hr : zbf r rs.length = true) (hf : zbf f rs.length = false) :
 Calls Tryz.prog 12 #[.agg #[.slice aw ws.length cw, .int .i64 sm, .int .i64 toh, .int .i64 top, .bool cyc, .int .i64 sn, .int .i64 old, .int .i64 cp, .int .i64 sr, .slice ar rs.length cr], .int .i64 r, .int .i64 sl, .int .i64 f] w fun e w' => ∃ vw vr, e = .returned (.tuple #[.agg #[vw, .int .i64 sm, .int .i64 toh, .int .i64 top, .bool cyc, .int .i64 sn, .int .i64 old, .int .i64 cp, .int .i64 sr, vr], .bool false]) /\ zak w.heap.size w'.heap.size w' vw vr ws.length rs.length (za ws) (y) /\ Below w.heap.size w w' := by
 have HS : Hid (Sl w (.slice aw ws.length cw) ws) := hs
 have HR : Hid (SlF w.heap.size w (.slice ar rs.length cr) rs.length (2 * rs.length) (fun i => .int .i64 (y i))) := hrt.here
 have HQ : Hid (zbm ws sm toh top cyc sn old cp sr y rs.length) := hok
 clear hs hrt hok
 go_enter Tryz.func12, Tryz.ntmps12
 go_wp2_with fail
 refine (zec _ _ _ _ _ _ _ _ _ _ _ _ _ _ y w.heap.size _ (HS.out.below (zk (Below.refl _ _))) hn (HR.out.below (zk (Below.refl _ _)) (Nat.le_refl _)) hn2).mono ?_
 rintro e w1 ⟨vw, vr, rfl, o1, b1⟩
 simp only [World.size_alloc] at o1
 obtain ⟨a1, c1, rfl⟩ := o1.sl.1.head
 obtain ⟨a2, c2, rfl⟩ := o1.sl.2.head
 have B1 := zk b1
 have l1 : w.heap.size + 1 < w1.heap.size := by have := b1.size; simp at this; omega
 have l0 : w.heap.size < w1.heap.size := by omega
 have k1 : ∀ i, w1.cell? ⟨w.heap.size, i, none⟩ = (#[.slice aw ws.length cw, .int .i64 sm, .int .i64 toh, .int .i64 top, .bool cyc, .int .i64 sn, .int .i64 old, .int .i64 cp, .int .i64 sr, .slice ar rs.length cr] : Array Value)[i]? := fun i => by rw [b1.cell (p := ⟨w.heap.size, i, none⟩) (by simp <;> omega)]; simp [go_sem]
 obtain ⟨_, hres⟩ := zc9 (n := 10) b1 (by simp) rfl rfl
 have Z1 : w1.rowIs (w.heap.size + 1) 29 10 (fun i => (#[.slice none 0 0, .int .i64 0, .int .i64 0, .int .i64 0, .bool false, .int .i64 0, .int .i64 0, .int .i64 0, .int .i64 0, .slice none 0 0] : Array Value).getD i (.bool false)) := hres
 have HZ1 : Hid _ := Z1
 clear b1 hres Z1
 go_wp2_with fail
 refine (zcj _ _ _ _ _ _ _ _ _ _ _ _ _ _ y w.heap.size _ (HS.out.below (zam B1)) hn hw (HR.out.below (zam B1) (Nat.le_refl _)) hn2).mono ?_
 rintro e w2 ⟨q, rfl, hq, b2⟩
 obtain rfl := hq.2 HQ.out
 have b2f := ze b2
 have p2 := zp b2 (by simp)
 have z2 : w1.heap.size < w2.heap.size := zr b2
 have B2 := zc B1 b2f
 have k2 := zd k1 b2f (by omega)
 have o2 := o1.below b2f (by omega)
 have HZ2 : Hid (w2.rowIs (w.heap.size + 1) 29 10 (fun i => (#[.slice none 0 0, .int .i64 0, .int .i64 0, .int .i64 0, .bool false, .int .i64 0, .int .i64 0, .int .i64 0, .int .i64 0, .slice none 0 0] : Array Value).getD i (.bool false))) := World.rowIs.of_block HZ1.out (b2f.block _ (by omega))
 clear k1 b2 b2f o1 HZ1 hq B1
 go_wp2_with fail
 refine (zb8 _ _ _ _ _ _ _ _ _ _ _ _ _ _ _ _ hn2).mono ?_
 rintro e w3 ⟨rfl, b3⟩
 rw [show zbf r rs.length = true from hr]
 have z3 : w1.heap.size < w3.heap.size := Nat.lt_of_lt_of_le z2 b3.size
 have B3 := zc B2 b3
 have k3 := zd k2 b3 (by omega)
 have p3 := zd p2 b3 (by omega)
 have o3 := o2.below b3 (by omega)
 have HZ3 : Hid (w3.rowIs (w.heap.size + 1) 29 10 (fun i => (#[.slice none 0 0, .int .i64 0, .int .i64 0, .int .i64 0, .bool false, .int .i64 0, .int .i64 0, .int .i64 0, .int .i64 0, .slice none 0 0] : Array Value).getD i (.bool false))) := World.rowIs.of_block HZ2.out (b3.block _ (by omega))
 clear k2 p2 b3 o2 HZ2 B2
 go_wp2_with fail
 refine (zb8 _ _ _ _ _ _ _ _ _ _ _ _ _ _ _ _ hn2).mono ?_
 rintro e w4 ⟨rfl, b4⟩
 rw [show zbf f rs.length = false from hf]
 have z4 : w1.heap.size < w4.heap.size := Nat.lt_of_lt_of_le z3 b4.size
 have B4 := zc B3 b4
 have k4 := zd k3 b4 (by omega)
 have p4 := zd p3 b4 (by omega)
 have o4 := o3.below b4 (by omega)
 have HZ4 : Hid (w4.rowIs (w.heap.size + 1) 29 10 (fun i => (#[.slice none 0 0, .int .i64 0, .int .i64 0, .int .i64 0, .bool false, .int .i64 0, .int .i64 0, .int .i64 0, .int .i64 0, .slice none 0 0] : Array Value).getD i (.bool false))) := World.rowIs.of_block HZ3.out (b4.block _ (by omega))
 clear k3 p3 b4 o3 HZ3 B3
 obtain ⟨d0, d1, d2, d3, d4, d5, d6, d7, d8, d9⟩ := zce HZ4.out rfl rfl rfl rfl rfl rfl rfl rfl rfl rfl
 simp at d0 d1 d2 d3 d4 d5 d6 d7 d8 d9
 have ef := World.rowIs.frozen HZ4.out
 have HO : Hid (zak (w.heap.size + 1 + 1) w1.heap.size w4 (.slice a1 ws.length c1) (.slice a2 rs.length c2) ws.length rs.length (za ws) y) := o4
 have HB : Hid (Below w.heap.size w w4) := B4
 clear o4 B4 HZ4
 go_wp2
 have q0 : (w4.cell? ⟨w.heap.size + 1, 0, none⟩).isSome = true := by rw [d0]; rfl
 have q1 : (w4.cell? ⟨w.heap.size + 1, 1, none⟩).isSome = true := by rw [d1]; rfl
 have q2 : (w4.cell? ⟨w.heap.size + 1, 2, none⟩).isSome = true := by rw [d2]; rfl
 have q3 : (w4.cell? ⟨w.heap.size + 1, 3, none⟩).isSome = true := by rw [d3]; rfl
 have q4 : (w4.cell? ⟨w.heap.size + 1, 4, none⟩).isSome = true := by rw [d4]; rfl
 have q5 : (w4.cell? ⟨w.heap.size + 1, 5, none⟩).isSome = true := by rw [d5]; rfl
 have q6 : (w4.cell? ⟨w.heap.size + 1, 6, none⟩).isSome = true := by rw [d6]; rfl
 have q7 : (w4.cell? ⟨w.heap.size + 1, 7, none⟩).isSome = true := by rw [d7]; rfl
 have q8 : (w4.cell? ⟨w.heap.size + 1, 8, none⟩).isSome = true := by rw [d8]; rfl
 have q9 : (w4.cell? ⟨w.heap.size + 1, 9, none⟩).isSome = true := by rw [d9]; rfl
 refine bodyPost_ret (v := .tuple #[.agg #[.slice a1 ws.length c1, .int .i64 sm, .int .i64 toh, .int .i64 top, .bool cyc, .int .i64 sn, .int .i64 old, .int .i64 cp, .int .i64 sr, .slice a2 rs.length c2], .bool false]) (by simp [results, Tryz.results12, go_sem, q0, q1, q2, q3, q4, q5, q6, q7, q8, q9]) rfl ⟨_, _, rfl, ?_, ?_⟩
 · obtain ⟨u1, t1, u2, t2, h1, h2, h3, h4, h5, h6, h7⟩ := HO.out
   exact ⟨u1, t1, u2, t2, by omega, by simp; omega, by omega, by simp; omega, h5, za9 h6 (by omega), za9 h7 (by omega)⟩
 · exact zbo HB.out (by omega)
set_option maxHeartbeats 2000000 in
theorem zoe (aw : Option Addr) (cw : Nat) (ws : List Int) (sm toh top : Int) (cyc : Bool) (sn old cp sr : Int) (ar : Option Addr) (cr : Nat) (rs : List (Int × Int)) (k j : Nat) (sl : Int) (y : Nat -> Int) (Tr : Nat) (w : World) (hs : Sl w (.slice aw ws.length cw) ws) (hn : ws.length <= 1048576) (hw : zg ws) (hrt : SlF Tr w (.slice ar rs.length cr) rs.length (2 * rs.length) (fun i => .int .i64 (y i))) (hn2 : rs.length <= 1048576) (hok : zbm ws sm toh top cyc sn old cp sr y rs.length) (hk : k < rs.length) (hj : j < rs.length) (hr0 : isR (y (2 * k)) = false) :
 Calls Tryz.prog 12 #[.agg #[.slice aw ws.length cw, .int .i64 sm, .int .i64 toh, .int .i64 top, .bool cyc, .int .i64 sn, .int .i64 old, .int .i64 cp, .int .i64 sr, .slice ar rs.length cr], .int .i64 (k : Int), .int .i64 sl, .int .i64 (j : Int)] w fun e w' => ∃ vw vr, e = .returned (.tuple #[.agg #[vw, .int .i64 sm, .int .i64 toh, .int .i64 top, .bool cyc, .int .i64 sn, .int .i64 old, .int .i64 cp, .int .i64 sr, vr], .bool false]) /\ zak w.heap.size w'.heap.size w' vw vr ws.length rs.length (za ws) (y) /\ Below w.heap.size w w' := by
 obtain ⟨tt, htt⟩ : ∃ t, t = y (2 * k) := ⟨_, rfl⟩
 obtain ⟨mm, hmm⟩ : ∃ t, t = y (2 * k + 1) := ⟨_, rfl⟩
 rw [<- htt] at hr0
 have HRF : Hid (isR tt = false) := hr0
 clear hr0
 have HS : Hid (Sl w (.slice aw ws.length cw) ws) := hs
 have HR : Hid (SlF w.heap.size w (.slice ar rs.length cr) rs.length (2 * rs.length) (fun i => .int .i64 (y i))) := hrt.here
 have HQ : Hid (zbm ws sm toh top cyc sn old cp sr y rs.length) := hok
 clear hs hrt hok
 go_enter Tryz.func12, Tryz.ntmps12
 go_wp2_with fail
 refine (zec _ _ _ _ _ _ _ _ _ _ _ _ _ _ y w.heap.size _ (HS.out.below (zk (Below.refl _ _))) hn (HR.out.below (zk (Below.refl _ _)) (Nat.le_refl _)) hn2).mono ?_
 rintro e w1 ⟨vw, vr, rfl, o1, b1⟩
 simp only [World.size_alloc] at o1
 obtain ⟨a1, c1, rfl⟩ := o1.sl.1.head
 obtain ⟨a2, c2, rfl⟩ := o1.sl.2.head
 have B1 := zk b1
 have l1 : w.heap.size + 1 < w1.heap.size := by have := b1.size; simp at this; omega
 have l0 : w.heap.size < w1.heap.size := by omega
 have k1 : ∀ i, w1.cell? ⟨w.heap.size, i, none⟩ = (#[.slice aw ws.length cw, .int .i64 sm, .int .i64 toh, .int .i64 top, .bool cyc, .int .i64 sn, .int .i64 old, .int .i64 cp, .int .i64 sr, .slice ar rs.length cr] : Array Value)[i]? := fun i => by rw [b1.cell (p := ⟨w.heap.size, i, none⟩) (by simp <;> omega)]; simp [go_sem]
 obtain ⟨_, hres⟩ := zc9 (n := 10) b1 (by simp) rfl rfl
 have Z1 : w1.rowIs (w.heap.size + 1) 29 10 (fun i => (#[.slice none 0 0, .int .i64 0, .int .i64 0, .int .i64 0, .bool false, .int .i64 0, .int .i64 0, .int .i64 0, .int .i64 0, .slice none 0 0] : Array Value).getD i (.bool false)) := hres
 have HZ1 : Hid _ := Z1
 clear b1 hres Z1
 go_wp2_with fail
 refine (zcj _ _ _ _ _ _ _ _ _ _ _ _ _ _ y w.heap.size _ (HS.out.below (zam B1)) hn hw (HR.out.below (zam B1) (Nat.le_refl _)) hn2).mono ?_
 rintro e w2 ⟨q, rfl, hq, b2⟩
 obtain rfl := hq.2 HQ.out
 have b2f := ze b2
 have p2 := zp b2 (by simp)
 have z2 : w1.heap.size < w2.heap.size := zr b2
 have B2 := zc B1 b2f
 have k2 := zd k1 b2f (by omega)
 have o2 := o1.below b2f (by omega)
 have HZ2 : Hid (w2.rowIs (w.heap.size + 1) 29 10 (fun i => (#[.slice none 0 0, .int .i64 0, .int .i64 0, .int .i64 0, .bool false, .int .i64 0, .int .i64 0, .int .i64 0, .int .i64 0, .slice none 0 0] : Array Value).getD i (.bool false))) := World.rowIs.of_block HZ1.out (b2f.block _ (by omega))
 clear k1 b2 b2f o1 HZ1 hq B1
 go_wp2_with fail
 refine (zb8 _ _ _ _ _ _ _ _ _ _ _ _ _ _ _ _ hn2).mono ?_
 rintro e w3 ⟨rfl, b3⟩
 rw [show zbf (k : Int) rs.length = true from (decide_eq_true ⟨by omega, by omega⟩)]
 have z3 : w1.heap.size < w3.heap.size := Nat.lt_of_lt_of_le z2 b3.size
 have B3 := zc B2 b3
 have k3 := zd k2 b3 (by omega)
 have p3 := zd p2 b3 (by omega)
 have o3 := o2.below b3 (by omega)
 have HZ3 : Hid (w3.rowIs (w.heap.size + 1) 29 10 (fun i => (#[.slice none 0 0, .int .i64 0, .int .i64 0, .int .i64 0, .bool false, .int .i64 0, .int .i64 0, .int .i64 0, .int .i64 0, .slice none 0 0] : Array Value).getD i (.bool false))) := World.rowIs.of_block HZ2.out (b3.block _ (by omega))
 clear k2 p2 b3 o2 HZ2 B2
 go_wp2_with fail
 refine (zb8 _ _ _ _ _ _ _ _ _ _ _ _ _ _ _ _ hn2).mono ?_
 rintro e w4 ⟨rfl, b4⟩
 rw [show zbf (j : Int) rs.length = true from (decide_eq_true ⟨by omega, by omega⟩)]
 have z4 : w1.heap.size < w4.heap.size := Nat.lt_of_lt_of_le z3 b4.size
 have B4 := zc B3 b4
 have k4 := zd k3 b4 (by omega)
 have p4 := zd p3 b4 (by omega)
 have o4 := o3.below b4 (by omega)
 have HZ4 : Hid (w4.rowIs (w.heap.size + 1) 29 10 (fun i => (#[.slice none 0 0, .int .i64 0, .int .i64 0, .int .i64 0, .bool false, .int .i64 0, .int .i64 0, .int .i64 0, .int .i64 0, .slice none 0 0] : Array Value).getD i (.bool false))) := World.rowIs.of_block HZ3.out (b4.block _ (by omega))
 clear k3 p3 b4 o3 HZ3 B3
 obtain ⟨br, offr, cap', hv, _, lbr, hcr⟩ := HR.out.parts (k := 0) (by omega)
 simp only [Value.slice.injEq] at hv
 obtain ⟨rfl, _, rfl⟩ := hv
 have hk' : (k : Int) < (rs.length : Int) := by omega
 have HX : Hid (∀ V, Below w.heap.size w V -> V.cell? ⟨br, offr + k * 2, none⟩ = some (.int .i64 tt) /\ V.cell? ⟨br, offr + k * 2 + 1, none⟩ = some (.int .i64 mm)) := fun V hV => ⟨by rw [hV.cell (p := ⟨br, offr + k * 2, none⟩) lbr, htt, Nat.mul_comm]; exact hcr (2 * k) (by omega), by rw [hV.cell (p := ⟨br, offr + k * 2 + 1, none⟩) lbr, hmm, Nat.mul_comm]; exact hcr (2 * k + 1) (by omega)⟩
 clear hcr htt hmm
 obtain ⟨x0, x1⟩ := HX.out _ B4
 go_wp2_with fail
 refine (zal _ _ _).mono ?_
 rintro e w5 ⟨rfl, b5⟩
 rw [HRF.out]
 have z5 : w1.heap.size < w5.heap.size := Nat.lt_of_lt_of_le z4 b5.size
 have B5 := zc B4 b5
 have k5 := zd k4 b5 (by omega)
 have p5 := zd p4 b5 (by omega)
 have o5 := o4.below b5 (by omega)
 have HZ5 : Hid (w5.rowIs (w.heap.size + 1) 29 10 (fun i => (#[.slice none 0 0, .int .i64 0, .int .i64 0, .int .i64 0, .bool false, .int .i64 0, .int .i64 0, .int .i64 0, .int .i64 0, .slice none 0 0] : Array Value).getD i (.bool false))) := World.rowIs.of_block HZ4.out (b5.block _ (by omega))
 clear k4 p4 b5 o4 HZ4 B4
 obtain ⟨d0, d1, d2, d3, d4, d5, d6, d7, d8, d9⟩ := zce HZ5.out rfl rfl rfl rfl rfl rfl rfl rfl rfl rfl
 simp at d0 d1 d2 d3 d4 d5 d6 d7 d8 d9
 have ef := World.rowIs.frozen HZ5.out
 have HO : Hid (zak (w.heap.size + 1 + 1) w1.heap.size w5 (.slice a1 ws.length c1) (.slice a2 rs.length c2) ws.length rs.length (za ws) y) := o5
 have HB : Hid (Below w.heap.size w w5) := B5
 clear o5 B5 HZ5
 go_wp2
 have q0 : (w5.cell? ⟨w.heap.size + 1, 0, none⟩).isSome = true := by rw [d0]; rfl
 have q1 : (w5.cell? ⟨w.heap.size + 1, 1, none⟩).isSome = true := by rw [d1]; rfl
 have q2 : (w5.cell? ⟨w.heap.size + 1, 2, none⟩).isSome = true := by rw [d2]; rfl
 have q3 : (w5.cell? ⟨w.heap.size + 1, 3, none⟩).isSome = true := by rw [d3]; rfl
 have q4 : (w5.cell? ⟨w.heap.size + 1, 4, none⟩).isSome = true := by rw [d4]; rfl
 have q5 : (w5.cell? ⟨w.heap.size + 1, 5, none⟩).isSome = true := by rw [d5]; rfl
 have q6 : (w5.cell? ⟨w.heap.size + 1, 6, none⟩).isSome = true := by rw [d6]; rfl
 have q7 : (w5.cell? ⟨w.heap.size + 1, 7, none⟩).isSome = true := by rw [d7]; rfl
 have q8 : (w5.cell? ⟨w.heap.size + 1, 8, none⟩).isSome = true := by rw [d8]; rfl
 have q9 : (w5.cell? ⟨w.heap.size + 1, 9, none⟩).isSome = true := by rw [d9]; rfl
 refine bodyPost_ret (v := .tuple #[.agg #[.slice a1 ws.length c1, .int .i64 sm, .int .i64 toh, .int .i64 top, .bool cyc, .int .i64 sn, .int .i64 old, .int .i64 cp, .int .i64 sr, .slice a2 rs.length c2], .bool false]) (by simp [results, Tryz.results12, go_sem, q0, q1, q2, q3, q4, q5, q6, q7, q8, q9]) rfl ⟨_, _, rfl, ?_, ?_⟩
 · obtain ⟨u1, t1, u2, t2, h1, h2, h3, h4, h5, h6, h7⟩ := HO.out
   exact ⟨u1, t1, u2, t2, by omega, by simp; omega, by omega, by simp; omega, h5, za9 h6 (by omega), za9 h7 (by omega)⟩
 · exact zbo HB.out (by omega)
set_option maxHeartbeats 2000000 in
theorem zof (aw : Option Addr) (cw : Nat) (ws : List Int) (sm toh top : Int) (cyc : Bool) (sn old cp sr : Int) (ar : Option Addr) (cr : Nat) (rs : List (Int × Int)) (k j : Nat) (sl : Int) (y : Nat -> Int) (Tr : Nat) (w : World) (hs : Sl w (.slice aw ws.length cw) ws) (hn : ws.length <= 1048576) (hw : zg ws) (hrt : SlF Tr w (.slice ar rs.length cr) rs.length (2 * rs.length) (fun i => .int .i64 (y i))) (hn2 : rs.length <= 1048576) (hok : zbm ws sm toh top cyc sn old cp sr y rs.length) (hk : k < rs.length) (hj : j < rs.length) (h4 : y (2 * k) = 4) :
 Calls Tryz.prog 12 #[.agg #[.slice aw ws.length cw, .int .i64 sm, .int .i64 toh, .int .i64 top, .bool cyc, .int .i64 sn, .int .i64 old, .int .i64 cp, .int .i64 sr, .slice ar rs.length cr], .int .i64 (k : Int), .int .i64 sl, .int .i64 (j : Int)] w fun e w' => ∃ vw vr, e = .returned (.tuple #[.agg #[vw, .int .i64 sm, .int .i64 toh, .int .i64 top, .bool cyc, .int .i64 sn, .int .i64 old, .int .i64 cp, .int .i64 sr, vr], .bool false]) /\ zak w.heap.size w'.heap.size w' vw vr ws.length rs.length (za ws) (y) /\ Below w.heap.size w w' := by
 obtain ⟨tt, htt⟩ : ∃ t, t = y (2 * k) := ⟨_, rfl⟩
 obtain ⟨mm, hmm⟩ : ∃ t, t = y (2 * k + 1) := ⟨_, rfl⟩
 rw [<- htt] at h4
 have H4 : Hid (tt = 4) := h4
 have HRF : Hid (isR tt = true) := by show isR tt = true; rw [h4]; rfl
 clear h4
 have HS : Hid (Sl w (.slice aw ws.length cw) ws) := hs
 have HR : Hid (SlF w.heap.size w (.slice ar rs.length cr) rs.length (2 * rs.length) (fun i => .int .i64 (y i))) := hrt.here
 have HQ : Hid (zbm ws sm toh top cyc sn old cp sr y rs.length) := hok
 clear hs hrt hok
 go_enter Tryz.func12, Tryz.ntmps12
 go_wp2_with fail
 refine (zec _ _ _ _ _ _ _ _ _ _ _ _ _ _ y w.heap.size _ (HS.out.below (zk (Below.refl _ _))) hn (HR.out.below (zk (Below.refl _ _)) (Nat.le_refl _)) hn2).mono ?_
 rintro e w1 ⟨vw, vr, rfl, o1, b1⟩
 simp only [World.size_alloc] at o1
 obtain ⟨a1, c1, rfl⟩ := o1.sl.1.head
 obtain ⟨a2, c2, rfl⟩ := o1.sl.2.head
 have B1 := zk b1
 have l1 : w.heap.size + 1 < w1.heap.size := by have := b1.size; simp at this; omega
 have l0 : w.heap.size < w1.heap.size := by omega
 have k1 : ∀ i, w1.cell? ⟨w.heap.size, i, none⟩ = (#[.slice aw ws.length cw, .int .i64 sm, .int .i64 toh, .int .i64 top, .bool cyc, .int .i64 sn, .int .i64 old, .int .i64 cp, .int .i64 sr, .slice ar rs.length cr] : Array Value)[i]? := fun i => by rw [b1.cell (p := ⟨w.heap.size, i, none⟩) (by simp <;> omega)]; simp [go_sem]
 obtain ⟨_, hres⟩ := zc9 (n := 10) b1 (by simp) rfl rfl
 have Z1 : w1.rowIs (w.heap.size + 1) 29 10 (fun i => (#[.slice none 0 0, .int .i64 0, .int .i64 0, .int .i64 0, .bool false, .int .i64 0, .int .i64 0, .int .i64 0, .int .i64 0, .slice none 0 0] : Array Value).getD i (.bool false)) := hres
 have HZ1 : Hid _ := Z1
 clear b1 hres Z1
 go_wp2_with fail
 refine (zcj _ _ _ _ _ _ _ _ _ _ _ _ _ _ y w.heap.size _ (HS.out.below (zam B1)) hn hw (HR.out.below (zam B1) (Nat.le_refl _)) hn2).mono ?_
 rintro e w2 ⟨q, rfl, hq, b2⟩
 obtain rfl := hq.2 HQ.out
 have b2f := ze b2
 have p2 := zp b2 (by simp)
 have z2 : w1.heap.size < w2.heap.size := zr b2
 have B2 := zc B1 b2f
 have k2 := zd k1 b2f (by omega)
 have o2 := o1.below b2f (by omega)
 have HZ2 : Hid (w2.rowIs (w.heap.size + 1) 29 10 (fun i => (#[.slice none 0 0, .int .i64 0, .int .i64 0, .int .i64 0, .bool false, .int .i64 0, .int .i64 0, .int .i64 0, .int .i64 0, .slice none 0 0] : Array Value).getD i (.bool false))) := World.rowIs.of_block HZ1.out (b2f.block _ (by omega))
 clear k1 b2 b2f o1 HZ1 hq B1
 go_wp2_with fail
 refine (zb8 _ _ _ _ _ _ _ _ _ _ _ _ _ _ _ _ hn2).mono ?_
 rintro e w3 ⟨rfl, b3⟩
 rw [show zbf (k : Int) rs.length = true from (decide_eq_true ⟨by omega, by omega⟩)]
 have z3 : w1.heap.size < w3.heap.size := Nat.lt_of_lt_of_le z2 b3.size
 have B3 := zc B2 b3
 have k3 := zd k2 b3 (by omega)
 have p3 := zd p2 b3 (by omega)
 have o3 := o2.below b3 (by omega)
 have HZ3 : Hid (w3.rowIs (w.heap.size + 1) 29 10 (fun i => (#[.slice none 0 0, .int .i64 0, .int .i64 0, .int .i64 0, .bool false, .int .i64 0, .int .i64 0, .int .i64 0, .int .i64 0, .slice none 0 0] : Array Value).getD i (.bool false))) := World.rowIs.of_block HZ2.out (b3.block _ (by omega))
 clear k2 p2 b3 o2 HZ2 B2
 go_wp2_with fail
 refine (zb8 _ _ _ _ _ _ _ _ _ _ _ _ _ _ _ _ hn2).mono ?_
 rintro e w4 ⟨rfl, b4⟩
 rw [show zbf (j : Int) rs.length = true from (decide_eq_true ⟨by omega, by omega⟩)]
 have z4 : w1.heap.size < w4.heap.size := Nat.lt_of_lt_of_le z3 b4.size
 have B4 := zc B3 b4
 have k4 := zd k3 b4 (by omega)
 have p4 := zd p3 b4 (by omega)
 have o4 := o3.below b4 (by omega)
 have HZ4 : Hid (w4.rowIs (w.heap.size + 1) 29 10 (fun i => (#[.slice none 0 0, .int .i64 0, .int .i64 0, .int .i64 0, .bool false, .int .i64 0, .int .i64 0, .int .i64 0, .int .i64 0, .slice none 0 0] : Array Value).getD i (.bool false))) := World.rowIs.of_block HZ3.out (b4.block _ (by omega))
 clear k3 p3 b4 o3 HZ3 B3
 obtain ⟨br, offr, cap', hv, _, lbr, hcr⟩ := HR.out.parts (k := 0) (by omega)
 simp only [Value.slice.injEq] at hv
 obtain ⟨rfl, _, rfl⟩ := hv
 have hk' : (k : Int) < (rs.length : Int) := by omega
 have HX : Hid (∀ V, Below w.heap.size w V -> V.cell? ⟨br, offr + k * 2, none⟩ = some (.int .i64 tt) /\ V.cell? ⟨br, offr + k * 2 + 1, none⟩ = some (.int .i64 mm)) := fun V hV => ⟨by rw [hV.cell (p := ⟨br, offr + k * 2, none⟩) lbr, htt, Nat.mul_comm]; exact hcr (2 * k) (by omega), by rw [hV.cell (p := ⟨br, offr + k * 2 + 1, none⟩) lbr, hmm, Nat.mul_comm]; exact hcr (2 * k + 1) (by omega)⟩
 clear hcr htt hmm
 obtain ⟨x0, x1⟩ := HX.out _ B4
 go_wp2_with fail
 refine (zal _ _ _).mono ?_
 rintro e w5 ⟨rfl, b5⟩
 rw [HRF.out]
 have z5 : w1.heap.size < w5.heap.size := Nat.lt_of_lt_of_le z4 b5.size
 have B5 := zc B4 b5
 have k5 := zd k4 b5 (by omega)
 have p5 := zd p4 b5 (by omega)
 have o5 := o4.below b5 (by omega)
 have HZ5 : Hid (w5.rowIs (w.heap.size + 1) 29 10 (fun i => (#[.slice none 0 0, .int .i64 0, .int .i64 0, .int .i64 0, .bool false, .int .i64 0, .int .i64 0, .int .i64 0, .int .i64 0, .slice none 0 0] : Array Value).getD i (.bool false))) := World.rowIs.of_block HZ4.out (b5.block _ (by omega))
 clear k4 p4 b5 o4 HZ4 B4
 clear x0 x1
 obtain ⟨x0, x1⟩ := HX.out _ B5
 rw [H4.out] at x0
 obtain ⟨d0, d1, d2, d3, d4, d5, d6, d7, d8, d9⟩ := zce HZ5.out rfl rfl rfl rfl rfl rfl rfl rfl rfl rfl
 simp at d0 d1 d2 d3 d4 d5 d6 d7 d8 d9
 have ef := World.rowIs.frozen HZ5.out
 have HO : Hid (zak (w.heap.size + 1 + 1) w1.heap.size w5 (.slice a1 ws.length c1) (.slice a2 rs.length c2) ws.length rs.length (za ws) y) := o5
 have HB : Hid (Below w.heap.size w w5) := B5
 clear o5 B5 HZ5
 go_wp2
 have q0 : (w5.cell? ⟨w.heap.size + 1, 0, none⟩).isSome = true := by rw [d0]; rfl
 have q1 : (w5.cell? ⟨w.heap.size + 1, 1, none⟩).isSome = true := by rw [d1]; rfl
 have q2 : (w5.cell? ⟨w.heap.size + 1, 2, none⟩).isSome = true := by rw [d2]; rfl
 have q3 : (w5.cell? ⟨w.heap.size + 1, 3, none⟩).isSome = true := by rw [d3]; rfl
 have q4 : (w5.cell? ⟨w.heap.size + 1, 4, none⟩).isSome = true := by rw [d4]; rfl
 have q5 : (w5.cell? ⟨w.heap.size + 1, 5, none⟩).isSome = true := by rw [d5]; rfl
 have q6 : (w5.cell? ⟨w.heap.size + 1, 6, none⟩).isSome = true := by rw [d6]; rfl
 have q7 : (w5.cell? ⟨w.heap.size + 1, 7, none⟩).isSome = true := by rw [d7]; rfl
 have q8 : (w5.cell? ⟨w.heap.size + 1, 8, none⟩).isSome = true := by rw [d8]; rfl
 have q9 : (w5.cell? ⟨w.heap.size + 1, 9, none⟩).isSome = true := by rw [d9]; rfl
 refine bodyPost_ret (v := .tuple #[.agg #[.slice a1 ws.length c1, .int .i64 sm, .int .i64 toh, .int .i64 top, .bool cyc, .int .i64 sn, .int .i64 old, .int .i64 cp, .int .i64 sr, .slice a2 rs.length c2], .bool false]) (by simp [results, Tryz.results12, go_sem, q0, q1, q2, q3, q4, q5, q6, q7, q8, q9]) rfl ⟨_, _, rfl, ?_, ?_⟩
 · obtain ⟨u1, t1, u2, t2, h1, h2, h3, h4, h5, h6, h7⟩ := HO.out
   exact ⟨u1, t1, u2, t2, by omega, by simp; omega, by omega, by simp; omega, h5, za9 h6 (by omega), za9 h7 (by omega)⟩
 · exact zbo HB.out (by omega)
set_option maxHeartbeats 2000000 in
theorem zog (aw : Option Addr) (cw : Nat) (ws : List Int) (sm toh top : Int) (cyc : Bool) (sn old cp sr : Int) (ar : Option Addr) (cr : Nat) (rs : List (Int × Int)) (k j : Nat) (sl : Int) (y : Nat -> Int) (Tr : Nat) (w : World) (hs : Sl w (.slice aw ws.length cw) ws) (hn : ws.length <= 1048576) (hw : zg ws) (hrt : SlF Tr w (.slice ar rs.length cr) rs.length (2 * rs.length) (fun i => .int .i64 (y i))) (hn2 : rs.length <= 1048576) (hok : zbm ws sm toh top cyc sn old cp sr y rs.length) (hk : k < rs.length) (hj : j < rs.length) (P : Nat) (hr0 : isR (y (2 * k)) = true) (h40 : y (2 * k) ≠ 4) (hp : y (2 * k + 1) = (P : Int)) (hP : P < ws.length) (hin : inB sl 0 ((zat ws P : Nat) - 1) = false) :
 Calls Tryz.prog 12 #[.agg #[.slice aw ws.length cw, .int .i64 sm, .int .i64 toh, .int .i64 top, .bool cyc, .int .i64 sn, .int .i64 old, .int .i64 cp, .int .i64 sr, .slice ar rs.length cr], .int .i64 (k : Int), .int .i64 sl, .int .i64 (j : Int)] w fun e w' => ∃ vw vr, e = .returned (.tuple #[.agg #[vw, .int .i64 sm, .int .i64 toh, .int .i64 top, .bool cyc, .int .i64 sn, .int .i64 old, .int .i64 cp, .int .i64 sr, vr], .bool false]) /\ zak w.heap.size w'.heap.size w' vw vr ws.length rs.length (za ws) (y) /\ Below w.heap.size w w' := by
 obtain ⟨tt, htt⟩ : ∃ t, t = y (2 * k) := ⟨_, rfl⟩
 obtain ⟨mm, hmm⟩ : ∃ t, t = y (2 * k + 1) := ⟨_, rfl⟩
 rw [<- htt] at hr0 h40
 rw [<- hmm] at hp
 have HRF : Hid (isR tt = true) := hr0
 have e4 : (tt == 4) = false := by simpa using h40
 have HPM : Hid (mm = (P : Int)) := hp
 clear hr0 h40 hp
 have HI : Hid (inB sl 0 ((zat ws P : Nat) - 1) = false) := hin
 clear hin
 have HS : Hid (Sl w (.slice aw ws.length cw) ws) := hs
 have HR : Hid (SlF w.heap.size w (.slice ar rs.length cr) rs.length (2 * rs.length) (fun i => .int .i64 (y i))) := hrt.here
 have HQ : Hid (zbm ws sm toh top cyc sn old cp sr y rs.length) := hok
 clear hs hrt hok
 go_enter Tryz.func12, Tryz.ntmps12
 go_wp2_with fail
 refine (zec _ _ _ _ _ _ _ _ _ _ _ _ _ _ y w.heap.size _ (HS.out.below (zk (Below.refl _ _))) hn (HR.out.below (zk (Below.refl _ _)) (Nat.le_refl _)) hn2).mono ?_
 rintro e w1 ⟨vw, vr, rfl, o1, b1⟩
 simp only [World.size_alloc] at o1
 obtain ⟨a1, c1, rfl⟩ := o1.sl.1.head
 obtain ⟨a2, c2, rfl⟩ := o1.sl.2.head
 have B1 := zk b1
 have l1 : w.heap.size + 1 < w1.heap.size := by have := b1.size; simp at this; omega
 have l0 : w.heap.size < w1.heap.size := by omega
 have k1 : ∀ i, w1.cell? ⟨w.heap.size, i, none⟩ = (#[.slice aw ws.length cw, .int .i64 sm, .int .i64 toh, .int .i64 top, .bool cyc, .int .i64 sn, .int .i64 old, .int .i64 cp, .int .i64 sr, .slice ar rs.length cr] : Array Value)[i]? := fun i => by rw [b1.cell (p := ⟨w.heap.size, i, none⟩) (by simp <;> omega)]; simp [go_sem]
 obtain ⟨_, hres⟩ := zc9 (n := 10) b1 (by simp) rfl rfl
 have Z1 : w1.rowIs (w.heap.size + 1) 29 10 (fun i => (#[.slice none 0 0, .int .i64 0, .int .i64 0, .int .i64 0, .bool false, .int .i64 0, .int .i64 0, .int .i64 0, .int .i64 0, .slice none 0 0] : Array Value).getD i (.bool false)) := hres
 have HZ1 : Hid _ := Z1
 clear b1 hres Z1
 go_wp2_with fail
 refine (zcj _ _ _ _ _ _ _ _ _ _ _ _ _ _ y w.heap.size _ (HS.out.below (zam B1)) hn hw (HR.out.below (zam B1) (Nat.le_refl _)) hn2).mono ?_
 rintro e w2 ⟨q, rfl, hq, b2⟩
 obtain rfl := hq.2 HQ.out
 have b2f := ze b2
 have p2 := zp b2 (by simp)
 have z2 : w1.heap.size < w2.heap.size := zr b2
 have B2 := zc B1 b2f
 have k2 := zd k1 b2f (by omega)
 have o2 := o1.below b2f (by omega)
 have HZ2 : Hid (w2.rowIs (w.heap.size + 1) 29 10 (fun i => (#[.slice none 0 0, .int .i64 0, .int .i64 0, .int .i64 0, .bool false, .int .i64 0, .int .i64 0, .int .i64 0, .int .i64 0, .slice none 0 0] : Array Value).getD i (.bool false))) := World.rowIs.of_block HZ1.out (b2f.block _ (by omega))
 clear k1 b2 b2f o1 HZ1 hq B1
 go_wp2_with fail
 refine (zb8 _ _ _ _ _ _ _ _ _ _ _ _ _ _ _ _ hn2).mono ?_
 rintro e w3 ⟨rfl, b3⟩
 rw [show zbf (k : Int) rs.length = true from (decide_eq_true ⟨by omega, by omega⟩)]
 have z3 : w1.heap.size < w3.heap.size := Nat.lt_of_lt_of_le z2 b3.size
 have B3 := zc B2 b3
 have k3 := zd k2 b3 (by omega)
 have p3 := zd p2 b3 (by omega)
 have o3 := o2.below b3 (by omega)
 have HZ3 : Hid (w3.rowIs (w.heap.size + 1) 29 10 (fun i => (#[.slice none 0 0, .int .i64 0, .int .i64 0, .int .i64 0, .bool false, .int .i64 0, .int .i64 0, .int .i64 0, .int .i64 0, .slice none 0 0] : Array Value).getD i (.bool false))) := World.rowIs.of_block HZ2.out (b3.block _ (by omega))
 clear k2 p2 b3 o2 HZ2 B2
 go_wp2_with fail
 refine (zb8 _ _ _ _ _ _ _ _ _ _ _ _ _ _ _ _ hn2).mono ?_
 rintro e w4 ⟨rfl, b4⟩
 rw [show zbf (j : Int) rs.length = true from (decide_eq_true ⟨by omega, by omega⟩)]
 have z4 : w1.heap.size < w4.heap.size := Nat.lt_of_lt_of_le z3 b4.size
 have B4 := zc B3 b4
 have k4 := zd k3 b4 (by omega)
 have p4 := zd p3 b4 (by omega)
 have o4 := o3.below b4 (by omega)
 have HZ4 : Hid (w4.rowIs (w.heap.size + 1) 29 10 (fun i => (#[.slice none 0 0, .int .i64 0, .int .i64 0, .int .i64 0, .bool false, .int .i64 0, .int .i64 0, .int .i64 0, .int .i64 0, .slice none 0 0] : Array Value).getD i (.bool false))) := World.rowIs.of_block HZ3.out (b4.block _ (by omega))
 clear k3 p3 b4 o3 HZ3 B3
 obtain ⟨br, offr, cap', hv, _, lbr, hcr⟩ := HR.out.parts (k := 0) (by omega)
 simp only [Value.slice.injEq] at hv
 obtain ⟨rfl, _, rfl⟩ := hv
 have hk' : (k : Int) < (rs.length : Int) := by omega
 have HX : Hid (∀ V, Below w.heap.size w V -> V.cell? ⟨br, offr + k * 2, none⟩ = some (.int .i64 tt) /\ V.cell? ⟨br, offr + k * 2 + 1, none⟩ = some (.int .i64 mm)) := fun V hV => ⟨by rw [hV.cell (p := ⟨br, offr + k * 2, none⟩) lbr, htt, Nat.mul_comm]; exact hcr (2 * k) (by omega), by rw [hV.cell (p := ⟨br, offr + k * 2 + 1, none⟩) lbr, hmm, Nat.mul_comm]; exact hcr (2 * k + 1) (by omega)⟩
 clear hcr htt hmm
 obtain ⟨x0, x1⟩ := HX.out _ B4
 go_wp2_with fail
 refine (zal _ _ _).mono ?_
 rintro e w5 ⟨rfl, b5⟩
 rw [HRF.out]
 have z5 : w1.heap.size < w5.heap.size := Nat.lt_of_lt_of_le z4 b5.size
 have B5 := zc B4 b5
 have k5 := zd k4 b5 (by omega)
 have p5 := zd p4 b5 (by omega)
 have o5 := o4.below b5 (by omega)
 have HZ5 : Hid (w5.rowIs (w.heap.size + 1) 29 10 (fun i => (#[.slice none 0 0, .int .i64 0, .int .i64 0, .int .i64 0, .bool false, .int .i64 0, .int .i64 0, .int .i64 0, .int .i64 0, .slice none 0 0] : Array Value).getD i (.bool false))) := World.rowIs.of_block HZ4.out (b5.block _ (by omega))
 clear k4 p4 b5 o4 HZ4 B4
 clear x0 x1
 obtain ⟨x0, x1⟩ := HX.out _ B5
 rw [HPM.out] at x1
 go_wp2_with fail
 refine (zbq _ _ _ _ _ _ _ _ _ _ _ _ _ _ _ P _ rfl (HS.out.below B5) hn hw hP).mono ?_
 rintro e w6 ⟨rfl, b6⟩
 have z6 : w1.heap.size < w6.heap.size := Nat.lt_of_lt_of_le z5 b6.size
 have B6 := zc B5 b6
 have k6 := zd k5 b6 (by omega)
 have p6 := zd p5 b6 (by omega)
 have o6 := o5.below b6 (by omega)
 have HZ6 : Hid (w6.rowIs (w.heap.size + 1) 29 10 (fun i => (#[.slice none 0 0, .int .i64 0, .int .i64 0, .int .i64 0, .bool false, .int .i64 0, .int .i64 0, .int .i64 0, .int .i64 0, .slice none 0 0] : Array Value).getD i (.bool false))) := World.rowIs.of_block HZ5.out (b6.block _ (by omega))
 clear k5 p5 b6 o5 HZ5 B5 x0 x1
 go_wp2_with fail
 refine (zfo _ _ _).mono ?_
 rintro e w7 ⟨v7, rfl, s7, b7⟩
 have h7 := zp b7 (by simp)
 have b7f := ze b7
 have z67 : w6.heap.size < w7.heap.size := zr b7
 have z7 : w1.heap.size < w7.heap.size := by omega
 have B7 := zc B6 b7f
 have k7 := zd k6 b7f (by omega)
 have p7 := zd p6 b7f (by omega)
 have o7 := o6.below b7f (by omega)
 have HZ7 : Hid (w7.rowIs (w.heap.size + 1) 29 10 (fun i => (#[.slice none 0 0, .int .i64 0, .int .i64 0, .int .i64 0, .bool false, .int .i64 0, .int .i64 0, .int .i64 0, .int .i64 0, .slice none 0 0] : Array Value).getD i (.bool false))) := World.rowIs.of_block HZ6.out (b7f.block _ (by omega))
 obtain ⟨asl, csl, rfl, hcase⟩ := s7
 obtain ⟨N, hN⟩ : ∃ N, N = slN (rdK (za ws P)) (rdS (za ws P)) := ⟨_, rfl⟩
 rw [<- hN] at hcase ⊢
 have hN1 : N <= 128 := by rw [hN]; exact zhx _ _
 have HN : Hid (N = zat ws P) := hN
 simp only [World.size_alloc] at hcase
 have HCASE : Hid (N = 0 \/ ∃ b M g, asl = some ⟨b, 0, none⟩ /\ w6.heap.size + 1 <= b /\ b < w7.heap.size /\ N <= M /\ w7.rowIs b 3 M g /\ ∀ i, i < N -> g i = .int .i64 (fs (rdK (za ws P)) + 2 * (i : Int))) := hcase
 clear k6 p6 b7 b7f o6 HZ6 B6 hcase hN
 obtain ⟨d0, d1, d2, d3, d4, d5, d6, d7, d8, d9⟩ := zce HZ7.out rfl rfl rfl rfl rfl rfl rfl rfl rfl rfl
 simp at d0 d1 d2 d3 d4 d5 d6 d7 d8 d9
 have ef := World.rowIs.frozen HZ7.out
 have HO : Hid (zak (w.heap.size + 1 + 1) w1.heap.size w7 (.slice a1 ws.length c1) (.slice a2 rs.length c2) ws.length rs.length (za ws) y) := o7
 have HB : Hid (Below w.heap.size w w7) := B7
 clear o7 B7 HZ7
 have HIN : inB sl 0 ((N : Int) - 1) = false := by rw [HN.out]; exact HI.out
 go_wp2_with (go_at_call 43; refine (zai _ _ _ _).mono ?_; rw [HIN]; rintro e w8 ⟨rfl, h8⟩; obtain rfl : w7 = w8 := h8.symm)
 have q0 : (w7.cell? ⟨w.heap.size + 1, 0, none⟩).isSome = true := by rw [d0]; rfl
 have q1 : (w7.cell? ⟨w.heap.size + 1, 1, none⟩).isSome = true := by rw [d1]; rfl
 have q2 : (w7.cell? ⟨w.heap.size + 1, 2, none⟩).isSome = true := by rw [d2]; rfl
 have q3 : (w7.cell? ⟨w.heap.size + 1, 3, none⟩).isSome = true := by rw [d3]; rfl
 have q4 : (w7.cell? ⟨w.heap.size + 1, 4, none⟩).isSome = true := by rw [d4]; rfl
 have q5 : (w7.cell? ⟨w.heap.size + 1, 5, none⟩).isSome = true := by rw [d5]; rfl
 have q6 : (w7.cell? ⟨w.heap.size + 1, 6, none⟩).isSome = true := by rw [d6]; rfl
 have q7 : (w7.cell? ⟨w.heap.size + 1, 7, none⟩).isSome = true := by rw [d7]; rfl
 have q8 : (w7.cell? ⟨w.heap.size + 1, 8, none⟩).isSome = true := by rw [d8]; rfl
 have q9 : (w7.cell? ⟨w.heap.size + 1, 9, none⟩).isSome = true := by rw [d9]; rfl
 refine bodyPost_ret (v := .tuple #[.agg #[.slice a1 ws.length c1, .int .i64 sm, .int .i64 toh, .int .i64 top, .bool cyc, .int .i64 sn, .int .i64 old, .int .i64 cp, .int .i64 sr, .slice a2 rs.length c2], .bool false]) (by simp [results, Tryz.results12, go_sem, q0, q1, q2, q3, q4, q5, q6, q7, q8, q9]) rfl ⟨_, _, rfl, ?_, ?_⟩
 · obtain ⟨u1, t1, u2, t2, h1, h2, h3, h4, h5, h6, h7⟩ := HO.out
   exact ⟨u1, t1, u2, t2, by omega, by simp; omega, by omega, by simp; omega, h5, za9 h6 (by omega), za9 h7 (by omega)⟩
 · exact zbo HB.out (by omega)
set_option maxHeartbeats 20000000 in
theorem zoa (aw : Option Addr) (cw : Nat) (ws : List Int) (sm toh top : Int) (cyc : Bool) (sn old cp sr : Int) (ar : Option Addr) (cr : Nat) (rs : List (Int × Int)) (k j s : Nat) (T3 C3 t3 m3 : Int) (ws3 : List Int) (y : Nat -> Int) (Tr : Nat) (w : World) (hs : Sl w (.slice aw ws.length cw) ws) (hn : ws.length <= 1048576) (hw : zg ws) (hrt : SlF Tr w (.slice ar rs.length cr) rs.length (2 * rs.length) (fun i => .int .i64 (y i))) (hn2 : rs.length <= 1048576) (hok : zbm ws sm toh top cyc sn old cp sr y rs.length) (hk : k < rs.length) (hj : j < rs.length) (P : Nat) (hr0 : isR (y (2 * k)) = true) (h40 : y (2 * k) ≠ 4) (hp : y (2 * k + 1) = (P : Int)) (hP : P < ws.length) (hs3 : s < zat ws P) (hrd : zw (za ws P) = true) (hl4 : ∀ (bw cw : Nat) (ar : Option Addr) (cr : Nat) (W : World), RwW W bw ws -> Calls Tryz.prog 44 #[.agg #[.slice (some ⟨bw, 0, none⟩) ws.length cw, .int .i64 sm, .int .i64 toh, .int .i64 top, .bool cyc, .int .i64 sn, .int .i64 old, .int .i64 cp, .int .i64 sr, .slice ar rs.length cr], .int .i64 ((zn ws P s : Nat) : Int)] W fun e w' => e = .returned (.tuple #[.agg #[.slice (some ⟨bw, 0, none⟩) ws.length cw, .int .i64 sm, .int .i64 toh, .int .i64 T3, .bool cyc, .int .i64 sn, .int .i64 old, .int .i64 C3, .int .i64 sr, .slice ar rs.length cr], .agg #[.int .i64 t3, .int .i64 m3]]) /\ RwW w' bw ws3 /\ Kp [bw] W w') (hl3 : ws3.length = ws.length) :
 Calls Tryz.prog 12 #[.agg #[.slice aw ws.length cw, .int .i64 sm, .int .i64 toh, .int .i64 top, .bool cyc, .int .i64 sn, .int .i64 old, .int .i64 cp, .int .i64 sr, .slice ar rs.length cr], .int .i64 (k : Int), .int .i64 (s : Int), .int .i64 (j : Int)] w fun e w' => ∃ vw vr, e = .returned (.tuple #[.agg #[vw, .int .i64 sm, .int .i64 toh, .int .i64 T3, .bool cyc, .int .i64 sn, .int .i64 old, .int .i64 C3, .int .i64 sr, vr], .bool true]) /\ zak w.heap.size w'.heap.size w' vw vr ws.length rs.length (za ws3) (fun i => if i = 2 * j then t3 else if i = 2 * j + 1 then m3 else y i) /\ Below w.heap.size w w' := by
 obtain ⟨tt, htt⟩ : ∃ t, t = y (2 * k) := ⟨_, rfl⟩
 obtain ⟨mm, hmm⟩ : ∃ t, t = y (2 * k + 1) := ⟨_, rfl⟩
 rw [<- htt] at hr0 h40
 rw [<- hmm] at hp
 have HRF : Hid (isR tt = true) := hr0
 have e4 : (tt == 4) = false := by simpa using h40
 have HPM : Hid (mm = (P : Int)) := hp
 clear hr0 h40 hp
 have HL4 : Hid (∀ (bw cw : Nat) (ar : Option Addr) (cr : Nat) (W : World), RwW W bw ws -> Calls Tryz.prog 44 #[.agg #[.slice (some ⟨bw, 0, none⟩) ws.length cw, .int .i64 sm, .int .i64 toh, .int .i64 top, .bool cyc, .int .i64 sn, .int .i64 old, .int .i64 cp, .int .i64 sr, .slice ar rs.length cr], .int .i64 ((zn ws P s : Nat) : Int)] W fun e w' => e = .returned (.tuple #[.agg #[.slice (some ⟨bw, 0, none⟩) ws.length cw, .int .i64 sm, .int .i64 toh, .int .i64 T3, .bool cyc, .int .i64 sn, .int .i64 old, .int .i64 C3, .int .i64 sr, .slice ar rs.length cr], .agg #[.int .i64 t3, .int .i64 m3]]) /\ RwW w' bw ws3 /\ Kp [bw] W w') := hl4
 have hsx := zes hrd hs3
 have hfs := zii (rdK (za ws P))
 have HPW : Hid (IntKind.i64.wrap ((P : Int) + (fs (rdK (za ws P)) + 2 * (s : Int))) = ((zn ws P s : Nat) : Int)) := by
  have h1 := za1 (za ws P)
  show _ = _
  rw [IntKind.wrap_i64]
  unfold zn at hsx ⊢
  omega
 clear hl4 hsx hfs hrd
 have HS : Hid (Sl w (.slice aw ws.length cw) ws) := hs
 have HR : Hid (SlF w.heap.size w (.slice ar rs.length cr) rs.length (2 * rs.length) (fun i => .int .i64 (y i))) := hrt.here
 have HQ : Hid (zbm ws sm toh top cyc sn old cp sr y rs.length) := hok
 clear hs hrt hok
 go_enter Tryz.func12, Tryz.ntmps12
 go_wp2_with fail
 refine (zec _ _ _ _ _ _ _ _ _ _ _ _ _ _ y w.heap.size _ (HS.out.below (zk (Below.refl _ _))) hn (HR.out.below (zk (Below.refl _ _)) (Nat.le_refl _)) hn2).mono ?_
 rintro e w1 ⟨vw, vr, rfl, o1, b1⟩
 simp only [World.size_alloc] at o1
 obtain ⟨a1, c1, rfl⟩ := o1.sl.1.head
 obtain ⟨a2, c2, rfl⟩ := o1.sl.2.head
 have B1 := zk b1
 have l1 : w.heap.size + 1 < w1.heap.size := by have := b1.size; simp at this; omega
 have l0 : w.heap.size < w1.heap.size := by omega
 have k1 : ∀ i, w1.cell? ⟨w.heap.size, i, none⟩ = (#[.slice aw ws.length cw, .int .i64 sm, .int .i64 toh, .int .i64 top, .bool cyc, .int .i64 sn, .int .i64 old, .int .i64 cp, .int .i64 sr, .slice ar rs.length cr] : Array Value)[i]? := fun i => by rw [b1.cell (p := ⟨w.heap.size, i, none⟩) (by simp <;> omega)]; simp [go_sem]
 obtain ⟨_, hres⟩ := zc9 (n := 10) b1 (by simp) rfl rfl
 have Z1 : w1.rowIs (w.heap.size + 1) 29 10 (fun i => (#[.slice none 0 0, .int .i64 0, .int .i64 0, .int .i64 0, .bool false, .int .i64 0, .int .i64 0, .int .i64 0, .int .i64 0, .slice none 0 0] : Array Value).getD i (.bool false)) := hres
 have HZ1 : Hid _ := Z1
 clear b1 hres Z1
 go_wp2_with fail
 refine (zcj _ _ _ _ _ _ _ _ _ _ _ _ _ _ y w.heap.size _ (HS.out.below (zam B1)) hn hw (HR.out.below (zam B1) (Nat.le_refl _)) hn2).mono ?_
 rintro e w2 ⟨q, rfl, hq, b2⟩
 obtain rfl := hq.2 HQ.out
 have b2f := ze b2
 have p2 := zp b2 (by simp)
 have z2 : w1.heap.size < w2.heap.size := zr b2
 have B2 := zc B1 b2f
 have k2 := zd k1 b2f (by omega)
 have o2 := o1.below b2f (by omega)
 have HZ2 : Hid (w2.rowIs (w.heap.size + 1) 29 10 (fun i => (#[.slice none 0 0, .int .i64 0, .int .i64 0, .int .i64 0, .bool false, .int .i64 0, .int .i64 0, .int .i64 0, .int .i64 0, .slice none 0 0] : Array Value).getD i (.bool false))) := World.rowIs.of_block HZ1.out (b2f.block _ (by omega))
 clear k1 b2 b2f o1 HZ1 hq B1
 go_wp2_with fail
 refine (zb8 _ _ _ _ _ _ _ _ _ _ _ _ _ _ _ _ hn2).mono ?_
 rintro e w3 ⟨rfl, b3⟩
 rw [show zbf (k : Int) rs.length = true from (decide_eq_true ⟨by omega, by omega⟩)]
 have z3 : w1.heap.size < w3.heap.size := Nat.lt_of_lt_of_le z2 b3.size
 have B3 := zc B2 b3
 have k3 := zd k2 b3 (by omega)
 have p3 := zd p2 b3 (by omega)
 have o3 := o2.below b3 (by omega)
 have HZ3 : Hid (w3.rowIs (w.heap.size + 1) 29 10 (fun i => (#[.slice none 0 0, .int .i64 0, .int .i64 0, .int .i64 0, .bool false, .int .i64 0, .int .i64 0, .int .i64 0, .int .i64 0, .slice none 0 0] : Array Value).getD i (.bool false))) := World.rowIs.of_block HZ2.out (b3.block _ (by omega))
 clear k2 p2 b3 o2 HZ2 B2
 go_wp2_with fail
 refine (zb8 _ _ _ _ _ _ _ _ _ _ _ _ _ _ _ _ hn2).mono ?_
 rintro e w4 ⟨rfl, b4⟩
 rw [show zbf (j : Int) rs.length = true from (decide_eq_true ⟨by omega, by omega⟩)]
 have z4 : w1.heap.size < w4.heap.size := Nat.lt_of_lt_of_le z3 b4.size
 have B4 := zc B3 b4
 have k4 := zd k3 b4 (by omega)
 have p4 := zd p3 b4 (by omega)
 have o4 := o3.below b4 (by omega)
 have HZ4 : Hid (w4.rowIs (w.heap.size + 1) 29 10 (fun i => (#[.slice none 0 0, .int .i64 0, .int .i64 0, .int .i64 0, .bool false, .int .i64 0, .int .i64 0, .int .i64 0, .int .i64 0, .slice none 0 0] : Array Value).getD i (.bool false))) := World.rowIs.of_block HZ3.out (b4.block _ (by omega))
 clear k3 p3 b4 o3 HZ3 B3
 obtain ⟨br, offr, cap', hv, _, lbr, hcr⟩ := HR.out.parts (k := 0) (by omega)
 simp only [Value.slice.injEq] at hv
 obtain ⟨rfl, _, rfl⟩ := hv
 have hk' : (k : Int) < (rs.length : Int) := by omega
 have HX : Hid (∀ V, Below w.heap.size w V -> V.cell? ⟨br, offr + k * 2, none⟩ = some (.int .i64 tt) /\ V.cell? ⟨br, offr + k * 2 + 1, none⟩ = some (.int .i64 mm)) := fun V hV => ⟨by rw [hV.cell (p := ⟨br, offr + k * 2, none⟩) lbr, htt, Nat.mul_comm]; exact hcr (2 * k) (by omega), by rw [hV.cell (p := ⟨br, offr + k * 2 + 1, none⟩) lbr, hmm, Nat.mul_comm]; exact hcr (2 * k + 1) (by omega)⟩
 clear hcr htt hmm
 obtain ⟨x0, x1⟩ := HX.out _ B4
 go_wp2_with fail
 refine (zal _ _ _).mono ?_
 rintro e w5 ⟨rfl, b5⟩
 rw [HRF.out]
 have z5 : w1.heap.size < w5.heap.size := Nat.lt_of_lt_of_le z4 b5.size
 have B5 := zc B4 b5
 have k5 := zd k4 b5 (by omega)
 have p5 := zd p4 b5 (by omega)
 have o5 := o4.below b5 (by omega)
 have HZ5 : Hid (w5.rowIs (w.heap.size + 1) 29 10 (fun i => (#[.slice none 0 0, .int .i64 0, .int .i64 0, .int .i64 0, .bool false, .int .i64 0, .int .i64 0, .int .i64 0, .int .i64 0, .slice none 0 0] : Array Value).getD i (.bool false))) := World.rowIs.of_block HZ4.out (b5.block _ (by omega))
 clear k4 p4 b5 o4 HZ4 B4
 clear x0 x1
 obtain ⟨x0, x1⟩ := HX.out _ B5
 rw [HPM.out] at x1
 go_wp2_with fail
 refine (zbq _ _ _ _ _ _ _ _ _ _ _ _ _ _ _ P _ rfl (HS.out.below B5) hn hw hP).mono ?_
 rintro e w6 ⟨rfl, b6⟩
 have z6 : w1.heap.size < w6.heap.size := Nat.lt_of_lt_of_le z5 b6.size
 have B6 := zc B5 b6
 have k6 := zd k5 b6 (by omega)
 have p6 := zd p5 b6 (by omega)
 have o6 := o5.below b6 (by omega)
 have HZ6 : Hid (w6.rowIs (w.heap.size + 1) 29 10 (fun i => (#[.slice none 0 0, .int .i64 0, .int .i64 0, .int .i64 0, .bool false, .int .i64 0, .int .i64 0, .int .i64 0, .int .i64 0, .slice none 0 0] : Array Value).getD i (.bool false))) := World.rowIs.of_block HZ5.out (b6.block _ (by omega))
 clear k5 p5 b6 o5 HZ5 B5 x0 x1
 go_wp2_with fail
 refine (zfo _ _ _).mono ?_
 rintro e w7 ⟨v7, rfl, s7, b7⟩
 have h7 := zp b7 (by simp)
 have b7f := ze b7
 have z67 : w6.heap.size < w7.heap.size := zr b7
 have z7 : w1.heap.size < w7.heap.size := by omega
 have B7 := zc B6 b7f
 have k7 := zd k6 b7f (by omega)
 have p7 := zd p6 b7f (by omega)
 have o7 := o6.below b7f (by omega)
 have HZ7 : Hid (w7.rowIs (w.heap.size + 1) 29 10 (fun i => (#[.slice none 0 0, .int .i64 0, .int .i64 0, .int .i64 0, .bool false, .int .i64 0, .int .i64 0, .int .i64 0, .int .i64 0, .slice none 0 0] : Array Value).getD i (.bool false))) := World.rowIs.of_block HZ6.out (b7f.block _ (by omega))
 obtain ⟨asl, csl, rfl, hcase⟩ := s7
 obtain ⟨N, hN⟩ : ∃ N, N = slN (rdK (za ws P)) (rdS (za ws P)) := ⟨_, rfl⟩
 rw [<- hN] at hcase ⊢
 have hN1 : N <= 128 := by rw [hN]; exact zhx _ _
 have HN : Hid (N = zat ws P) := hN
 simp only [World.size_alloc] at hcase
 have HCASE : Hid (N = 0 \/ ∃ b M g, asl = some ⟨b, 0, none⟩ /\ w6.heap.size + 1 <= b /\ b < w7.heap.size /\ N <= M /\ w7.rowIs b 3 M g /\ ∀ i, i < N -> g i = .int .i64 (fs (rdK (za ws P)) + 2 * (i : Int))) := hcase
 clear k6 p6 b7 b7f o6 HZ6 B6 hcase hN
 obtain ⟨bs, M, g, rfl, hbs1, hbs2, hNM, hrow, hg⟩ : ∃ b M g, asl = some ⟨b, 0, none⟩ /\ w6.heap.size + 1 <= b /\ b < w7.heap.size /\ N <= M /\ w7.rowIs b 3 M g /\ ∀ i, i < N -> g i = .int .i64 (fs (rdK (za ws P)) + 2 * (i : Int)) := by
  rcases HCASE.out with h | h
  · have := HN.out; omega
  · exact h
 have hsN : s < N := by rw [HN.out]; exact hs3
 have sN' : (s : Int) < (N : Int) := by omega
 have cs : w7.cell? ⟨bs, s, none⟩ = some (.int .i64 (fs (rdK (za ws P)) + 2 * (s : Int))) := by rw [hrow.cell (by omega), hg s hsN]
 obtain ⟨bw, b5, rfl, hW, hR, hne, b1', b2', b3', b4'⟩ := zhh rfl (by omega) o7
 obtain ⟨rfl, hR5⟩ : a2 = some ⟨b5, 0, none⟩ /\ RwR w7 b5 rs.length y := by
  rcases hR with h | h
  · omega
  · exact h
 have nbw : bw ≠ b5 := hne (by omega)
 have HIN : inB (s : Int) 0 ((N : Int) - 1) = true := decide_eq_true ⟨by omega, by omega⟩
 obtain ⟨fx, hfx⟩ : ∃ z, z = (fs (rdK (za ws P)) + 2 * (s : Int)) := ⟨_, rfl⟩
 rw [<- hfx] at cs HPW
 have HPX : Hid (IntKind.i64.wrap ((P : Int) + fx) = ((zn ws P s : Nat) : Int)) := HPW
 have HL7 : Hid (∀ a : Int, a = ((zn ws P s : Nat) : Int) -> ∀ W, RwW W bw ws -> Calls Tryz.prog 44 #[.agg #[.slice (some ⟨bw, 0, none⟩) ws.length c1, .int .i64 sm, .int .i64 toh, .int .i64 top, .bool cyc, .int .i64 sn, .int .i64 old, .int .i64 cp, .int .i64 sr, .slice (some ⟨b5, 0, none⟩) rs.length c2], .int .i64 a] W fun e w' => e = .returned (.tuple #[.agg #[.slice (some ⟨bw, 0, none⟩) ws.length c1, .int .i64 sm, .int .i64 toh, .int .i64 T3, .bool cyc, .int .i64 sn, .int .i64 old, .int .i64 C3, .int .i64 sr, .slice (some ⟨b5, 0, none⟩) rs.length c2], .agg #[.int .i64 t3, .int .i64 m3]]) /\ RwW w' bw ws3 /\ Kp [bw] W w') := fun a ha W hW => by rw [ha]; exact HL4.out bw c1 (some ⟨b5, 0, none⟩) c2 W hW
 have KP : ∀ V, Kp [bw] w7 V -> (Kp [bw] w7 V /\ (∀ i, V.cell? ⟨w1.heap.size, i, none⟩ = (#[.slice (some ⟨bw, 0, none⟩) ws.length c1, .int .i64 sm, .int .i64 toh, .int .i64 top, .bool cyc, .int .i64 sn, .int .i64 old, .int .i64 cp, .int .i64 sr, .slice (some ⟨b5, 0, none⟩) rs.length c2] : Array Value)[i]?) /\ V.cell? ⟨bs, s, none⟩ = some (.int .i64 fx)) := fun V hV => ⟨hV, Kp.has p7 hV (by omega) (by simp; omega), by rw [hV.cell (p := ⟨bs, s, none⟩) hbs2 (by simp; omega)]; exact cs⟩
 have hWl : RwW w7 bw ws := hW
 have HR7 : Hid (RwR w7 b5 rs.length y) := hR5
 have HB7 : Hid (Below w.heap.size w w7) := B7
 have lbw : bw < w7.heap.size := hW.lt
 have lb5 : b5 < w7.heap.size := hR5.lt
 clear hW hR hR5 o7 B7 HPW hfx hg hrow HL4 HX HCASE HS HR HQ
 go_upto_region 9 with (go_at_call 43; refine (zai _ _ _ _).mono ?_; rw [HIN]; rintro e w8 ⟨rfl, h8⟩; obtain rfl : w7 = w8 := h8.symm)
 go_cut [14, 15] from 73 to 83 (fun s14 s15 wc => ∃ x4 x5 : Nat, s14 = .pointer (some ⟨x4, 0, none⟩) /\ s15 = .pointer (some ⟨x5, 0, none⟩) /\ wc.rowIs x4 29 10 (fun i => (#[.slice (some ⟨bw, 0, none⟩) ws.length c1, .int .i64 sm, .int .i64 toh, .int .i64 T3, .bool cyc, .int .i64 sn, .int .i64 old, .int .i64 C3, .int .i64 sr, .slice (some ⟨b5, 0, none⟩) rs.length c2] : Array Value).getD i (.bool false)) /\ wc.rowIs x5 57 2 (fun i => (#[.int .i64 t3, .int .i64 m3] : Array Value).getD i (.bool false)) /\ w7.heap.size <= x4 /\ w7.heap.size <= x5 /\ x4 ≠ x5 /\ RwW wc bw ws3 /\ Kp [bw] w7 wc)
 case first =>
  clear k7 p7 cs h7
  refine wp_region_held_drew (S := fun V => Kp [bw] w7 V /\ (∀ i, V.cell? ⟨w1.heap.size, i, none⟩ = (#[.slice (some ⟨bw, 0, none⟩) ws.length c1, .int .i64 sm, .int .i64 toh, .int .i64 top, .bool cyc, .int .i64 sn, .int .i64 old, .int .i64 cp, .int .i64 sr, .slice (some ⟨b5, 0, none⟩) rs.length c2] : Array Value)[i]?) /\ V.cell? ⟨bs, s, none⟩ = some (.int .i64 fx)) (by kernel_rfl) (KP _ (Kp.refl _ _).drew) (fun hHeld => ?_)
  obtain ⟨wd, hwd⟩ : ∃ V, V = w7.drew := ⟨_, rfl⟩
  rw [<- hwd] at hHeld ⊢
  have hWd : RwW wd bw ws := by rw [hwd]; exact Rw.drew hWl
  clear hwd
  refine tk 0 74 (.agg #[.slice (some ⟨bw, 0, none⟩) ws.length c1, .int .i64 sm, .int .i64 toh, .int .i64 top, .bool cyc, .int .i64 sn, .int .i64 old, .int .i64 cp, .int .i64 sr, .slice (some ⟨b5, 0, none⟩) rs.length c2]) hHeld rfl (by intro w hSw; (try dsimp only at hSw); go_simp) ?_
  try simp only [Act.put, zxy, zxz, zx0]
  refine tk 1 75 (.int .i64 (P : Int)) hHeld rfl (by intro w hSw; (try dsimp only at hSw); go_simp) ?_
  try simp only [Act.put, zxy, zxz, zx0]
  refine tk 2 76 (.slice (some ⟨bs, 0, none⟩) N csl) hHeld rfl (by intro w hSw; (try dsimp only at hSw); go_simp) ?_
  try simp only [Act.put, zxy, zxz, zx0]
  refine tk 3 77 (.int .i64 (s : Int)) hHeld rfl (by intro w hSw; (try dsimp only at hSw); go_simp) ?_
  try simp only [Act.put, zxy, zxz, zx0]
  refine tk 4 78 (.pointer (some ⟨bs, s, none⟩)) hHeld rfl (by intro w hSw; (try dsimp only at hSw); go_simp) ?_
  try simp only [Act.put, zxy, zxz, zx0]
  refine tk 5 79 (.int .i64 fx) hHeld rfl (by intro w hSw; (try dsimp only at hSw); go_simp) ?_
  try simp only [Act.put, zxy, zxz, zx0]
  refine tk 6 80 (.int .i64 (IntKind.i64.wrap ((P : Int) + fx))) hHeld rfl (by intro w hSw; (try dsimp only at hSw); go_simp) ?_
  try simp only [Act.put, zxy, zxz, zx0]
  refine wpAnyH_ready (rs := [7, 11, 12]) (by kernel_rfl) (by simp) ?_
  refine AllReadyH.cons (o := { dst := some 81, op := _, type := _, pos := _, after := _, guard := _ }) rfl (fun K hK => ?_) (AllReadyH.cons (o := { dst := some 14, op := _, type := _, pos := _, after := _, guard := _ }) rfl (fun K hK => ?_) (AllReadyH.cons (o := { dst := some 15, op := _, type := _, pos := _, after := _, guard := _ }) rfl (fun K hK => ?_) AllReadyH.nil))
  · go_simp
    go_at_call 44
    refine (HL7.out _ HPX.out _ hWd).mono ?_
    rintro e wf ⟨rfl, hWf, hKf⟩
    have hKn := hHeld.1.trans hKf
    have hsz := hKf.size
    clear hHeld hKf
    refine hK.out _ _ (KP _ hKn) (fun hHeld => ?_)
    clear hK K hKn
    try simp only [Act.put, zxy, zxz, zx0]
    refine tk 8 73 (.tuple #[.agg #[.slice (some ⟨bw, 0, none⟩) ws.length c1, .int .i64 sm, .int .i64 toh, .int .i64 T3, .bool cyc, .int .i64 sn, .int .i64 old, .int .i64 C3, .int .i64 sr, .slice (some ⟨b5, 0, none⟩) rs.length c2], .agg #[.int .i64 t3, .int .i64 m3]]) hHeld rfl (by intro w hSw; (try dsimp only at hSw); go_simp) ?_
    try simp only [Act.put, zxy, zxz, zx0]
    refine tk 9 82 (.agg #[.slice (some ⟨bw, 0, none⟩) ws.length c1, .int .i64 sm, .int .i64 toh, .int .i64 T3, .bool cyc, .int .i64 sn, .int .i64 old, .int .i64 C3, .int .i64 sr, .slice (some ⟨b5, 0, none⟩) rs.length c2]) hHeld rfl (by intro w hSw; (try dsimp only at hSw); go_simp) ?_
    try simp only [Act.put, zxy, zxz, zx0]
    refine tk 10 83 (.agg #[.int .i64 t3, .int .i64 m3]) hHeld rfl (by intro w hSw; (try dsimp only at hSw); go_simp) ?_
    try simp only [Act.put, zxy, zxz, zx0]
    refine wpAnyH_ready (rs := [11, 12]) (by kernel_rfl) (by simp) ?_
    refine AllReadyH.cons (o := { dst := some 14, op := _, type := _, pos := _, after := _, guard := _ }) rfl (fun K hK => ?_) (AllReadyH.cons (o := { dst := some 15, op := _, type := _, pos := _, after := _, guard := _ }) rfl (fun K hK => ?_) AllReadyH.nil)
    · go_simp
      have hHa := hHeld.1
      clear hHeld
      refine hK.out _ _ (KP _ (hHa.alloc _)) (fun hHeld => ?_)
      clear hK K
      try simp only [Act.put, zxy, zxz, zx0]
      obtain ⟨wa, hwa⟩ : ∃ V, V = wf.alloc (.cells #[.slice none 0 0, .int .i64 0, .int .i64 0, .int .i64 0, .bool false, .int .i64 0, .int .i64 0, .int .i64 0, .int .i64 0, .slice none 0 0] 29) := ⟨_, rfl⟩
      rw [<- hwa] at hHeld ⊢
      have ba : Below wf.heap.size wf wa := by rw [hwa]; exact (Below.refl _ _).alloc (Nat.le_refl _) _
      have r4 : wa.rowIs wf.heap.size 29 10 (fun i => (#[.slice none 0 0, .int .i64 0, .int .i64 0, .int .i64 0, .bool false, .int .i64 0, .int .i64 0, .int .i64 0, .int .i64 0, .slice none 0 0] : Array Value).getD i (.bool false)) := by rw [hwa]; exact zd3 rfl
      have l4 : w7.heap.size <= wf.heap.size := hHa.size
      have hWa := Rw.below hWf ba
      clear hwa hHa ba
      refine wpAnyH_ready (rs := [12]) (by kernel_rfl) (by simp) ?_
      refine AllReadyH.cons (o := { dst := some 15, op := _, type := _, pos := _, after := _, guard := _ }) rfl (fun K hK => ?_) AllReadyH.nil
      go_simp
      have hHa := hHeld.1
      clear hHeld
      refine hK.out _ _ (KP _ (hHa.alloc _)) (fun hHeld => ?_)
      clear hK K
      try simp only [Act.put, zxy, zxz, zx0]
      obtain ⟨wb, hwa⟩ : ∃ V, V = wa.alloc (.cells #[.int .i64 0, .int .i64 0] 57) := ⟨_, rfl⟩
      rw [<- hwa] at hHeld ⊢
      have ba : Below wa.heap.size wa wb := by rw [hwa]; exact (Below.refl _ _).alloc (Nat.le_refl _) _
      have r5 : wb.rowIs wa.heap.size 57 2 (fun i => (#[.int .i64 0, .int .i64 0] : Array Value).getD i (.bool false)) := by rw [hwa]; exact zd3 rfl
      have l5 : w7.heap.size <= wa.heap.size := hHa.size
      have n45 : wf.heap.size ≠ wa.heap.size := by have := World.rowIs.lt r4; omega
      have r4 := World.rowIs.of_block r4 (ba.block _ (World.rowIs.lt r4))
      have hWb := Rw.below hWa ba
      clear hwa hHa ba
      obtain ⟨d0, d1, d2, d3, d4, d5, d6, d7, d8, d9⟩ := zd2 r4 rfl rfl rfl rfl rfl rfl rfl rfl rfl rfl
      simp at d0 d1 d2 d3 d4 d5 d6 d7 d8 d9
      have ez := World.rowIs.frozen r4
      refine wpAnyH_ready (rs := [13]) (by kernel_rfl) (by simp) ?_
      refine AllReadyH.cons (o := { dst := none, op := _, type := _, pos := _, after := _, guard := _ }) rfl (fun K hK => ?_) AllReadyH.nil
      go_simp
      have hHs := hHeld.1
      clear hHeld
      refine hK.out _ _ (KP _ (ze8 hHs l4)) (fun hHeld => ?_)
      clear hK K d0 d1 d2 d3 d4 d5 d6 d7 d8 d9 ez
      try simp only [Act.put, zxy, zxz, zx0]
      obtain ⟨ws4, hws4⟩ : ∃ V, V = ((((((((((wb.setCell ⟨wf.heap.size, 0, none⟩ (.slice (some ⟨bw, 0, none⟩) ws.length c1)).setCell ⟨wf.heap.size, 1, none⟩ (.int .i64 sm)).setCell ⟨wf.heap.size, 2, none⟩ (.int .i64 toh)).setCell ⟨wf.heap.size, 3, none⟩ (.int .i64 T3)).setCell ⟨wf.heap.size, 4, none⟩ (.bool cyc)).setCell ⟨wf.heap.size, 5, none⟩ (.int .i64 sn)).setCell ⟨wf.heap.size, 6, none⟩ (.int .i64 old)).setCell ⟨wf.heap.size, 7, none⟩ (.int .i64 C3)).setCell ⟨wf.heap.size, 8, none⟩ (.int .i64 sr)).setCell ⟨wf.heap.size, 9, none⟩ (.slice (some ⟨b5, 0, none⟩) rs.length c2)) := ⟨_, rfl⟩
      have r4' : ws4.rowIs wf.heap.size 29 10 (fun i => (#[.slice (some ⟨bw, 0, none⟩) ws.length c1, .int .i64 sm, .int .i64 toh, .int .i64 T3, .bool cyc, .int .i64 sn, .int .i64 old, .int .i64 C3, .int .i64 sr, .slice (some ⟨b5, 0, none⟩) rs.length c2] : Array Value).getD i (.bool false)) := by rw [hws4]; exact zfe r4 rfl rfl rfl rfl rfl rfl rfl rfl rfl rfl
      have r5' : ws4.rowIs wa.heap.size 57 2 (fun i => (#[.int .i64 0, .int .i64 0] : Array Value).getD i (.bool false)) := by rw [hws4]; exact World.rowIs.of_block r5 (za3 n45.symm)
      have hW4 : RwW ws4 bw ws3 := by rw [hws4]; exact Rw.of_block hWb (za3 (by omega))
      rw [<- hws4] at hHeld ⊢
      clear hws4 hHs
      have y0 := r5'.cell (i := 0) (by omega)
      have y1 := r5'.cell (i := 1) (by omega)
      simp at y0 y1
      have ey := World.rowIs.frozen r5'
      refine wpAnyH_ready (rs := [14]) (by kernel_rfl) (by simp) ?_
      refine AllReadyH.cons (o := { dst := none, op := _, type := _, pos := _, after := _, guard := _ }) rfl (fun K hK => ?_) AllReadyH.nil
      go_simp
      have hHs := hHeld.1
      clear hHeld
      refine hK.out _ _ (KP _ ((hHs.setCell (p := ⟨wa.heap.size, 0, none⟩) (.inr l5) _).setCell (p := ⟨wa.heap.size, 1, none⟩) (.inr l5) _)) (fun hHeld => ?_)
      clear hK K
      try simp only [Act.put, zxy, zxz, zx0]
      refine wpAnyH_done (by kernel_rfl) ?_ _
      go_wp2_with fail
      go_meet
      refine ⟨wf.heap.size, wa.heap.size, rfl, rfl, (r4'.setOther (a := ⟨wa.heap.size, 0, none⟩) n45 _).setOther (a := ⟨wa.heap.size, 1, none⟩) n45 _, zfz r5' rfl rfl, l4, l5, n45, Rw.other (Rw.other hW4 (p := ⟨wa.heap.size, 0, none⟩) (by show bw ≠ wa.heap.size; omega) _) (p := ⟨wa.heap.size, 1, none⟩) (by show bw ≠ wa.heap.size; omega) _, hHeld.1⟩
    · go_simp
      have hHa := hHeld.1
      clear hHeld
      refine hK.out _ _ (KP _ (hHa.alloc _)) (fun hHeld => ?_)
      clear hK K
      try simp only [Act.put, zxy, zxz, zx0]
      obtain ⟨wb, hwa⟩ : ∃ V, V = wf.alloc (.cells #[.int .i64 0, .int .i64 0] 57) := ⟨_, rfl⟩
      rw [<- hwa] at hHeld ⊢
      have ba : Below wf.heap.size wf wb := by rw [hwa]; exact (Below.refl _ _).alloc (Nat.le_refl _) _
      have r5 : wb.rowIs wf.heap.size 57 2 (fun i => (#[.int .i64 0, .int .i64 0] : Array Value).getD i (.bool false)) := by rw [hwa]; exact zd3 rfl
      have l5 : w7.heap.size <= wf.heap.size := hHa.size
      have hWb := Rw.below hWf ba
      clear hwa hHa ba
      refine wpAnyH_ready (rs := [11]) (by kernel_rfl) (by simp) ?_
      refine AllReadyH.cons (o := { dst := some 14, op := _, type := _, pos := _, after := _, guard := _ }) rfl (fun K hK => ?_) AllReadyH.nil
      go_simp
      have hHa := hHeld.1
      clear hHeld
      refine hK.out _ _ (KP _ (hHa.alloc _)) (fun hHeld => ?_)
      clear hK K
      try simp only [Act.put, zxy, zxz, zx0]
      obtain ⟨wa, hwa⟩ : ∃ V, V = wb.alloc (.cells #[.slice none 0 0, .int .i64 0, .int .i64 0, .int .i64 0, .bool false, .int .i64 0, .int .i64 0, .int .i64 0, .int .i64 0, .slice none 0 0] 29) := ⟨_, rfl⟩
      rw [<- hwa] at hHeld ⊢
      have ba : Below wb.heap.size wb wa := by rw [hwa]; exact (Below.refl _ _).alloc (Nat.le_refl _) _
      have r4 : wa.rowIs wb.heap.size 29 10 (fun i => (#[.slice none 0 0, .int .i64 0, .int .i64 0, .int .i64 0, .bool false, .int .i64 0, .int .i64 0, .int .i64 0, .int .i64 0, .slice none 0 0] : Array Value).getD i (.bool false)) := by rw [hwa]; exact zd3 rfl
      have l4 : w7.heap.size <= wb.heap.size := hHa.size
      have n45 : wb.heap.size ≠ wf.heap.size := by have := World.rowIs.lt r5; omega
      have r5 := World.rowIs.of_block r5 (ba.block _ (World.rowIs.lt r5))
      have hWa := Rw.below hWb ba
      clear hwa hHa ba
      obtain ⟨d0, d1, d2, d3, d4, d5, d6, d7, d8, d9⟩ := zd2 r4 rfl rfl rfl rfl rfl rfl rfl rfl rfl rfl
      simp at d0 d1 d2 d3 d4 d5 d6 d7 d8 d9
      have ez := World.rowIs.frozen r4
      refine wpAnyH_ready (rs := [13]) (by kernel_rfl) (by simp) ?_
      refine AllReadyH.cons (o := { dst := none, op := _, type := _, pos := _, after := _, guard := _ }) rfl (fun K hK => ?_) AllReadyH.nil
      go_simp
      have hHs := hHeld.1
      clear hHeld
      refine hK.out _ _ (KP _ (ze8 hHs l4)) (fun hHeld => ?_)
      clear hK K d0 d1 d2 d3 d4 d5 d6 d7 d8 d9 ez
      try simp only [Act.put, zxy, zxz, zx0]
      obtain ⟨ws4, hws4⟩ : ∃ V, V = ((((((((((wa.setCell ⟨wb.heap.size, 0, none⟩ (.slice (some ⟨bw, 0, none⟩) ws.length c1)).setCell ⟨wb.heap.size, 1, none⟩ (.int .i64 sm)).setCell ⟨wb.heap.size, 2, none⟩ (.int .i64 toh)).setCell ⟨wb.heap.size, 3, none⟩ (.int .i64 T3)).setCell ⟨wb.heap.size, 4, none⟩ (.bool cyc)).setCell ⟨wb.heap.size, 5, none⟩ (.int .i64 sn)).setCell ⟨wb.heap.size, 6, none⟩ (.int .i64 old)).setCell ⟨wb.heap.size, 7, none⟩ (.int .i64 C3)).setCell ⟨wb.heap.size, 8, none⟩ (.int .i64 sr)).setCell ⟨wb.heap.size, 9, none⟩ (.slice (some ⟨b5, 0, none⟩) rs.length c2)) := ⟨_, rfl⟩
      have r4' : ws4.rowIs wb.heap.size 29 10 (fun i => (#[.slice (some ⟨bw, 0, none⟩) ws.length c1, .int .i64 sm, .int .i64 toh, .int .i64 T3, .bool cyc, .int .i64 sn, .int .i64 old, .int .i64 C3, .int .i64 sr, .slice (some ⟨b5, 0, none⟩) rs.length c2] : Array Value).getD i (.bool false)) := by rw [hws4]; exact zfe r4 rfl rfl rfl rfl rfl rfl rfl rfl rfl rfl
      have r5' : ws4.rowIs wf.heap.size 57 2 (fun i => (#[.int .i64 0, .int .i64 0] : Array Value).getD i (.bool false)) := by rw [hws4]; exact World.rowIs.of_block r5 (za3 n45.symm)
      have hW4 : RwW ws4 bw ws3 := by rw [hws4]; exact Rw.of_block hWa (za3 (by omega))
      rw [<- hws4] at hHeld ⊢
      clear hws4 hHs
      have y0 := r5'.cell (i := 0) (by omega)
      have y1 := r5'.cell (i := 1) (by omega)
      simp at y0 y1
      have ey := World.rowIs.frozen r5'
      refine wpAnyH_ready (rs := [14]) (by kernel_rfl) (by simp) ?_
      refine AllReadyH.cons (o := { dst := none, op := _, type := _, pos := _, after := _, guard := _ }) rfl (fun K hK => ?_) AllReadyH.nil
      go_simp
      have hHs := hHeld.1
      clear hHeld
      refine hK.out _ _ (KP _ ((hHs.setCell (p := ⟨wf.heap.size, 0, none⟩) (.inr l5) _).setCell (p := ⟨wf.heap.size, 1, none⟩) (.inr l5) _)) (fun hHeld => ?_)
      clear hK K
      try simp only [Act.put, zxy, zxz, zx0]
      refine wpAnyH_done (by kernel_rfl) ?_ _
      go_wp2_with fail
      go_meet
      refine ⟨wb.heap.size, wf.heap.size, rfl, rfl, (r4'.setOther (a := ⟨wf.heap.size, 0, none⟩) n45 _).setOther (a := ⟨wf.heap.size, 1, none⟩) n45 _, zfz r5' rfl rfl, l4, l5, n45, Rw.other (Rw.other hW4 (p := ⟨wf.heap.size, 0, none⟩) (by show bw ≠ wf.heap.size; omega) _) (p := ⟨wf.heap.size, 1, none⟩) (by show bw ≠ wf.heap.size; omega) _, hHeld.1⟩
  · go_simp
    have hHa := hHeld.1
    clear hHeld
    refine hK.out _ _ (KP _ (hHa.alloc _)) (fun hHeld => ?_)
    clear hK K
    try simp only [Act.put, zxy, zxz, zx0]
    obtain ⟨wa, hwa⟩ : ∃ V, V = wd.alloc (.cells #[.slice none 0 0, .int .i64 0, .int .i64 0, .int .i64 0, .bool false, .int .i64 0, .int .i64 0, .int .i64 0, .int .i64 0, .slice none 0 0] 29) := ⟨_, rfl⟩
    rw [<- hwa] at hHeld ⊢
    have ba : Below wd.heap.size wd wa := by rw [hwa]; exact (Below.refl _ _).alloc (Nat.le_refl _) _
    have r4 : wa.rowIs wd.heap.size 29 10 (fun i => (#[.slice none 0 0, .int .i64 0, .int .i64 0, .int .i64 0, .bool false, .int .i64 0, .int .i64 0, .int .i64 0, .int .i64 0, .slice none 0 0] : Array Value).getD i (.bool false)) := by rw [hwa]; exact zd3 rfl
    have l4 : w7.heap.size <= wd.heap.size := hHa.size
    have hWa := Rw.below hWd ba
    clear hwa hHa ba
    refine wpAnyH_ready (rs := [7, 12]) (by kernel_rfl) (by simp) ?_
    refine AllReadyH.cons (o := { dst := some 81, op := _, type := _, pos := _, after := _, guard := _ }) rfl (fun K hK => ?_) (AllReadyH.cons (o := { dst := some 15, op := _, type := _, pos := _, after := _, guard := _ }) rfl (fun K hK => ?_) AllReadyH.nil)
    · go_simp
      go_at_call 44
      refine (HL7.out _ HPX.out _ hWa).mono ?_
      rintro e wf ⟨rfl, hWf, hKf⟩
      have hKn := hHeld.1.trans hKf
      have r4 := World.rowIs.of_block r4 (hKf.block _ (World.rowIs.lt r4) (by simp; omega))
      have hsz := hKf.size
      clear hHeld hKf
      refine hK.out _ _ (KP _ hKn) (fun hHeld => ?_)
      clear hK K hKn
      try simp only [Act.put, zxy, zxz, zx0]
      refine tk 8 73 (.tuple #[.agg #[.slice (some ⟨bw, 0, none⟩) ws.length c1, .int .i64 sm, .int .i64 toh, .int .i64 T3, .bool cyc, .int .i64 sn, .int .i64 old, .int .i64 C3, .int .i64 sr, .slice (some ⟨b5, 0, none⟩) rs.length c2], .agg #[.int .i64 t3, .int .i64 m3]]) hHeld rfl (by intro w hSw; (try dsimp only at hSw); go_simp) ?_
      try simp only [Act.put, zxy, zxz, zx0]
      refine tk 9 82 (.agg #[.slice (some ⟨bw, 0, none⟩) ws.length c1, .int .i64 sm, .int .i64 toh, .int .i64 T3, .bool cyc, .int .i64 sn, .int .i64 old, .int .i64 C3, .int .i64 sr, .slice (some ⟨b5, 0, none⟩) rs.length c2]) hHeld rfl (by intro w hSw; (try dsimp only at hSw); go_simp) ?_
      try simp only [Act.put, zxy, zxz, zx0]
      refine tk 10 83 (.agg #[.int .i64 t3, .int .i64 m3]) hHeld rfl (by intro w hSw; (try dsimp only at hSw); go_simp) ?_
      try simp only [Act.put, zxy, zxz, zx0]
      refine wpAnyH_ready (rs := [12]) (by kernel_rfl) (by simp) ?_
      refine AllReadyH.cons (o := { dst := some 15, op := _, type := _, pos := _, after := _, guard := _ }) rfl (fun K hK => ?_) AllReadyH.nil
      go_simp
      have hHa := hHeld.1
      clear hHeld
      refine hK.out _ _ (KP _ (hHa.alloc _)) (fun hHeld => ?_)
      clear hK K
      try simp only [Act.put, zxy, zxz, zx0]
      obtain ⟨wb, hwa⟩ : ∃ V, V = wf.alloc (.cells #[.int .i64 0, .int .i64 0] 57) := ⟨_, rfl⟩
      rw [<- hwa] at hHeld ⊢
      have ba : Below wf.heap.size wf wb := by rw [hwa]; exact (Below.refl _ _).alloc (Nat.le_refl _) _
      have r5 : wb.rowIs wf.heap.size 57 2 (fun i => (#[.int .i64 0, .int .i64 0] : Array Value).getD i (.bool false)) := by rw [hwa]; exact zd3 rfl
      have l5 : w7.heap.size <= wf.heap.size := hHa.size
      have n45 : wd.heap.size ≠ wf.heap.size := by have := World.rowIs.lt r4; omega
      have r4 := World.rowIs.of_block r4 (ba.block _ (World.rowIs.lt r4))
      have hWb := Rw.below hWf ba
      clear hwa hHa ba
      obtain ⟨d0, d1, d2, d3, d4, d5, d6, d7, d8, d9⟩ := zd2 r4 rfl rfl rfl rfl rfl rfl rfl rfl rfl rfl
      simp at d0 d1 d2 d3 d4 d5 d6 d7 d8 d9
      have ez := World.rowIs.frozen r4
      refine wpAnyH_ready (rs := [13]) (by kernel_rfl) (by simp) ?_
      refine AllReadyH.cons (o := { dst := none, op := _, type := _, pos := _, after := _, guard := _ }) rfl (fun K hK => ?_) AllReadyH.nil
      go_simp
      have hHs := hHeld.1
      clear hHeld
      refine hK.out _ _ (KP _ (ze8 hHs l4)) (fun hHeld => ?_)
      clear hK K d0 d1 d2 d3 d4 d5 d6 d7 d8 d9 ez
      try simp only [Act.put, zxy, zxz, zx0]
      obtain ⟨ws4, hws4⟩ : ∃ V, V = ((((((((((wb.setCell ⟨wd.heap.size, 0, none⟩ (.slice (some ⟨bw, 0, none⟩) ws.length c1)).setCell ⟨wd.heap.size, 1, none⟩ (.int .i64 sm)).setCell ⟨wd.heap.size, 2, none⟩ (.int .i64 toh)).setCell ⟨wd.heap.size, 3, none⟩ (.int .i64 T3)).setCell ⟨wd.heap.size, 4, none⟩ (.bool cyc)).setCell ⟨wd.heap.size, 5, none⟩ (.int .i64 sn)).setCell ⟨wd.heap.size, 6, none⟩ (.int .i64 old)).setCell ⟨wd.heap.size, 7, none⟩ (.int .i64 C3)).setCell ⟨wd.heap.size, 8, none⟩ (.int .i64 sr)).setCell ⟨wd.heap.size, 9, none⟩ (.slice (some ⟨b5, 0, none⟩) rs.length c2)) := ⟨_, rfl⟩
      have r4' : ws4.rowIs wd.heap.size 29 10 (fun i => (#[.slice (some ⟨bw, 0, none⟩) ws.length c1, .int .i64 sm, .int .i64 toh, .int .i64 T3, .bool cyc, .int .i64 sn, .int .i64 old, .int .i64 C3, .int .i64 sr, .slice (some ⟨b5, 0, none⟩) rs.length c2] : Array Value).getD i (.bool false)) := by rw [hws4]; exact zfe r4 rfl rfl rfl rfl rfl rfl rfl rfl rfl rfl
      have r5' : ws4.rowIs wf.heap.size 57 2 (fun i => (#[.int .i64 0, .int .i64 0] : Array Value).getD i (.bool false)) := by rw [hws4]; exact World.rowIs.of_block r5 (za3 n45.symm)
      have hW4 : RwW ws4 bw ws3 := by rw [hws4]; exact Rw.of_block hWb (za3 (by omega))
      rw [<- hws4] at hHeld ⊢
      clear hws4 hHs
      have y0 := r5'.cell (i := 0) (by omega)
      have y1 := r5'.cell (i := 1) (by omega)
      simp at y0 y1
      have ey := World.rowIs.frozen r5'
      refine wpAnyH_ready (rs := [14]) (by kernel_rfl) (by simp) ?_
      refine AllReadyH.cons (o := { dst := none, op := _, type := _, pos := _, after := _, guard := _ }) rfl (fun K hK => ?_) AllReadyH.nil
      go_simp
      have hHs := hHeld.1
      clear hHeld
      refine hK.out _ _ (KP _ ((hHs.setCell (p := ⟨wf.heap.size, 0, none⟩) (.inr l5) _).setCell (p := ⟨wf.heap.size, 1, none⟩) (.inr l5) _)) (fun hHeld => ?_)
      clear hK K
      try simp only [Act.put, zxy, zxz, zx0]
      refine wpAnyH_done (by kernel_rfl) ?_ _
      go_wp2_with fail
      go_meet
      refine ⟨wd.heap.size, wf.heap.size, rfl, rfl, (r4'.setOther (a := ⟨wf.heap.size, 0, none⟩) n45 _).setOther (a := ⟨wf.heap.size, 1, none⟩) n45 _, zfz r5' rfl rfl, l4, l5, n45, Rw.other (Rw.other hW4 (p := ⟨wf.heap.size, 0, none⟩) (by show bw ≠ wf.heap.size; omega) _) (p := ⟨wf.heap.size, 1, none⟩) (by show bw ≠ wf.heap.size; omega) _, hHeld.1⟩
    · go_simp
      have hHa := hHeld.1
      clear hHeld
      refine hK.out _ _ (KP _ (hHa.alloc _)) (fun hHeld => ?_)
      clear hK K
      try simp only [Act.put, zxy, zxz, zx0]
      obtain ⟨wb, hwa⟩ : ∃ V, V = wa.alloc (.cells #[.int .i64 0, .int .i64 0] 57) := ⟨_, rfl⟩
      rw [<- hwa] at hHeld ⊢
      have ba : Below wa.heap.size wa wb := by rw [hwa]; exact (Below.refl _ _).alloc (Nat.le_refl _) _
      have r5 : wb.rowIs wa.heap.size 57 2 (fun i => (#[.int .i64 0, .int .i64 0] : Array Value).getD i (.bool false)) := by rw [hwa]; exact zd3 rfl
      have l5 : w7.heap.size <= wa.heap.size := hHa.size
      have n45 : wd.heap.size ≠ wa.heap.size := by have := World.rowIs.lt r4; omega
      have r4 := World.rowIs.of_block r4 (ba.block _ (World.rowIs.lt r4))
      have hWb := Rw.below hWa ba
      clear hwa hHa ba
      refine wpAnyH_ready (rs := [7]) (by kernel_rfl) (by simp) ?_
      refine AllReadyH.cons (o := { dst := some 81, op := _, type := _, pos := _, after := _, guard := _ }) rfl (fun K hK => ?_) AllReadyH.nil
      go_simp
      go_at_call 44
      refine (HL7.out _ HPX.out _ hWb).mono ?_
      rintro e wf ⟨rfl, hWf, hKf⟩
      have hKn := hHeld.1.trans hKf
      have r4 := World.rowIs.of_block r4 (hKf.block _ (World.rowIs.lt r4) (by simp; omega))
      have r5 := World.rowIs.of_block r5 (hKf.block _ (World.rowIs.lt r5) (by simp; omega))
      have hsz := hKf.size
      clear hHeld hKf
      refine hK.out _ _ (KP _ hKn) (fun hHeld => ?_)
      clear hK K hKn
      try simp only [Act.put, zxy, zxz, zx0]
      refine tk 8 73 (.tuple #[.agg #[.slice (some ⟨bw, 0, none⟩) ws.length c1, .int .i64 sm, .int .i64 toh, .int .i64 T3, .bool cyc, .int .i64 sn, .int .i64 old, .int .i64 C3, .int .i64 sr, .slice (some ⟨b5, 0, none⟩) rs.length c2], .agg #[.int .i64 t3, .int .i64 m3]]) hHeld rfl (by intro w hSw; (try dsimp only at hSw); go_simp) ?_
      try simp only [Act.put, zxy, zxz, zx0]
      refine tk 9 82 (.agg #[.slice (some ⟨bw, 0, none⟩) ws.length c1, .int .i64 sm, .int .i64 toh, .int .i64 T3, .bool cyc, .int .i64 sn, .int .i64 old, .int .i64 C3, .int .i64 sr, .slice (some ⟨b5, 0, none⟩) rs.length c2]) hHeld rfl (by intro w hSw; (try dsimp only at hSw); go_simp) ?_
      try simp only [Act.put, zxy, zxz, zx0]
      refine tk 10 83 (.agg #[.int .i64 t3, .int .i64 m3]) hHeld rfl (by intro w hSw; (try dsimp only at hSw); go_simp) ?_
      try simp only [Act.put, zxy, zxz, zx0]
      obtain ⟨d0, d1, d2, d3, d4, d5, d6, d7, d8, d9⟩ := zd2 r4 rfl rfl rfl rfl rfl rfl rfl rfl rfl rfl
      simp at d0 d1 d2 d3 d4 d5 d6 d7 d8 d9
      have ez := World.rowIs.frozen r4
      refine wpAnyH_ready (rs := [13]) (by kernel_rfl) (by simp) ?_
      refine AllReadyH.cons (o := { dst := none, op := _, type := _, pos := _, after := _, guard := _ }) rfl (fun K hK => ?_) AllReadyH.nil
      go_simp
      have hHs := hHeld.1
      clear hHeld
      refine hK.out _ _ (KP _ (ze8 hHs l4)) (fun hHeld => ?_)
      clear hK K d0 d1 d2 d3 d4 d5 d6 d7 d8 d9 ez
      try simp only [Act.put, zxy, zxz, zx0]
      obtain ⟨ws4, hws4⟩ : ∃ V, V = ((((((((((wf.setCell ⟨wd.heap.size, 0, none⟩ (.slice (some ⟨bw, 0, none⟩) ws.length c1)).setCell ⟨wd.heap.size, 1, none⟩ (.int .i64 sm)).setCell ⟨wd.heap.size, 2, none⟩ (.int .i64 toh)).setCell ⟨wd.heap.size, 3, none⟩ (.int .i64 T3)).setCell ⟨wd.heap.size, 4, none⟩ (.bool cyc)).setCell ⟨wd.heap.size, 5, none⟩ (.int .i64 sn)).setCell ⟨wd.heap.size, 6, none⟩ (.int .i64 old)).setCell ⟨wd.heap.size, 7, none⟩ (.int .i64 C3)).setCell ⟨wd.heap.size, 8, none⟩ (.int .i64 sr)).setCell ⟨wd.heap.size, 9, none⟩ (.slice (some ⟨b5, 0, none⟩) rs.length c2)) := ⟨_, rfl⟩
      have r4' : ws4.rowIs wd.heap.size 29 10 (fun i => (#[.slice (some ⟨bw, 0, none⟩) ws.length c1, .int .i64 sm, .int .i64 toh, .int .i64 T3, .bool cyc, .int .i64 sn, .int .i64 old, .int .i64 C3, .int .i64 sr, .slice (some ⟨b5, 0, none⟩) rs.length c2] : Array Value).getD i (.bool false)) := by rw [hws4]; exact zfe r4 rfl rfl rfl rfl rfl rfl rfl rfl rfl rfl
      have r5' : ws4.rowIs wa.heap.size 57 2 (fun i => (#[.int .i64 0, .int .i64 0] : Array Value).getD i (.bool false)) := by rw [hws4]; exact World.rowIs.of_block r5 (za3 n45.symm)
      have hW4 : RwW ws4 bw ws3 := by rw [hws4]; exact Rw.of_block hWf (za3 (by omega))
      rw [<- hws4] at hHeld ⊢
      clear hws4 hHs
      have y0 := r5'.cell (i := 0) (by omega)
      have y1 := r5'.cell (i := 1) (by omega)
      simp at y0 y1
      have ey := World.rowIs.frozen r5'
      refine wpAnyH_ready (rs := [14]) (by kernel_rfl) (by simp) ?_
      refine AllReadyH.cons (o := { dst := none, op := _, type := _, pos := _, after := _, guard := _ }) rfl (fun K hK => ?_) AllReadyH.nil
      go_simp
      have hHs := hHeld.1
      clear hHeld
      refine hK.out _ _ (KP _ ((hHs.setCell (p := ⟨wa.heap.size, 0, none⟩) (.inr l5) _).setCell (p := ⟨wa.heap.size, 1, none⟩) (.inr l5) _)) (fun hHeld => ?_)
      clear hK K
      try simp only [Act.put, zxy, zxz, zx0]
      refine wpAnyH_done (by kernel_rfl) ?_ _
      go_wp2_with fail
      go_meet
      refine ⟨wd.heap.size, wa.heap.size, rfl, rfl, (r4'.setOther (a := ⟨wa.heap.size, 0, none⟩) n45 _).setOther (a := ⟨wa.heap.size, 1, none⟩) n45 _, zfz r5' rfl rfl, l4, l5, n45, Rw.other (Rw.other hW4 (p := ⟨wa.heap.size, 0, none⟩) (by show bw ≠ wa.heap.size; omega) _) (p := ⟨wa.heap.size, 1, none⟩) (by show bw ≠ wa.heap.size; omega) _, hHeld.1⟩
  · go_simp
    have hHa := hHeld.1
    clear hHeld
    refine hK.out _ _ (KP _ (hHa.alloc _)) (fun hHeld => ?_)
    clear hK K
    try simp only [Act.put, zxy, zxz, zx0]
    obtain ⟨wb, hwa⟩ : ∃ V, V = wd.alloc (.cells #[.int .i64 0, .int .i64 0] 57) := ⟨_, rfl⟩
    rw [<- hwa] at hHeld ⊢
    have ba : Below wd.heap.size wd wb := by rw [hwa]; exact (Below.refl _ _).alloc (Nat.le_refl _) _
    have r5 : wb.rowIs wd.heap.size 57 2 (fun i => (#[.int .i64 0, .int .i64 0] : Array Value).getD i (.bool false)) := by rw [hwa]; exact zd3 rfl
    have l5 : w7.heap.size <= wd.heap.size := hHa.size
    have hWb := Rw.below hWd ba
    clear hwa hHa ba
    refine wpAnyH_ready (rs := [7, 11]) (by kernel_rfl) (by simp) ?_
    refine AllReadyH.cons (o := { dst := some 81, op := _, type := _, pos := _, after := _, guard := _ }) rfl (fun K hK => ?_) (AllReadyH.cons (o := { dst := some 14, op := _, type := _, pos := _, after := _, guard := _ }) rfl (fun K hK => ?_) AllReadyH.nil)
    · go_simp
      go_at_call 44
      refine (HL7.out _ HPX.out _ hWb).mono ?_
      rintro e wf ⟨rfl, hWf, hKf⟩
      have hKn := hHeld.1.trans hKf
      have r5 := World.rowIs.of_block r5 (hKf.block _ (World.rowIs.lt r5) (by simp; omega))
      have hsz := hKf.size
      clear hHeld hKf
      refine hK.out _ _ (KP _ hKn) (fun hHeld => ?_)
      clear hK K hKn
      try simp only [Act.put, zxy, zxz, zx0]
      refine tk 8 73 (.tuple #[.agg #[.slice (some ⟨bw, 0, none⟩) ws.length c1, .int .i64 sm, .int .i64 toh, .int .i64 T3, .bool cyc, .int .i64 sn, .int .i64 old, .int .i64 C3, .int .i64 sr, .slice (some ⟨b5, 0, none⟩) rs.length c2], .agg #[.int .i64 t3, .int .i64 m3]]) hHeld rfl (by intro w hSw; (try dsimp only at hSw); go_simp) ?_
      try simp only [Act.put, zxy, zxz, zx0]
      refine tk 9 82 (.agg #[.slice (some ⟨bw, 0, none⟩) ws.length c1, .int .i64 sm, .int .i64 toh, .int .i64 T3, .bool cyc, .int .i64 sn, .int .i64 old, .int .i64 C3, .int .i64 sr, .slice (some ⟨b5, 0, none⟩) rs.length c2]) hHeld rfl (by intro w hSw; (try dsimp only at hSw); go_simp) ?_
      try simp only [Act.put, zxy, zxz, zx0]
      refine tk 10 83 (.agg #[.int .i64 t3, .int .i64 m3]) hHeld rfl (by intro w hSw; (try dsimp only at hSw); go_simp) ?_
      try simp only [Act.put, zxy, zxz, zx0]
      refine wpAnyH_ready (rs := [11]) (by kernel_rfl) (by simp) ?_
      refine AllReadyH.cons (o := { dst := some 14, op := _, type := _, pos := _, after := _, guard := _ }) rfl (fun K hK => ?_) AllReadyH.nil
      go_simp
      have hHa := hHeld.1
      clear hHeld
      refine hK.out _ _ (KP _ (hHa.alloc _)) (fun hHeld => ?_)
      clear hK K
      try simp only [Act.put, zxy, zxz, zx0]
      obtain ⟨wa, hwa⟩ : ∃ V, V = wf.alloc (.cells #[.slice none 0 0, .int .i64 0, .int .i64 0, .int .i64 0, .bool false, .int .i64 0, .int .i64 0, .int .i64 0, .int .i64 0, .slice none 0 0] 29) := ⟨_, rfl⟩
      rw [<- hwa] at hHeld ⊢
      have ba : Below wf.heap.size wf wa := by rw [hwa]; exact (Below.refl _ _).alloc (Nat.le_refl _) _
      have r4 : wa.rowIs wf.heap.size 29 10 (fun i => (#[.slice none 0 0, .int .i64 0, .int .i64 0, .int .i64 0, .bool false, .int .i64 0, .int .i64 0, .int .i64 0, .int .i64 0, .slice none 0 0] : Array Value).getD i (.bool false)) := by rw [hwa]; exact zd3 rfl
      have l4 : w7.heap.size <= wf.heap.size := hHa.size
      have n45 : wf.heap.size ≠ wd.heap.size := by have := World.rowIs.lt r5; omega
      have r5 := World.rowIs.of_block r5 (ba.block _ (World.rowIs.lt r5))
      have hWa := Rw.below hWf ba
      clear hwa hHa ba
      obtain ⟨d0, d1, d2, d3, d4, d5, d6, d7, d8, d9⟩ := zd2 r4 rfl rfl rfl rfl rfl rfl rfl rfl rfl rfl
      simp at d0 d1 d2 d3 d4 d5 d6 d7 d8 d9
      have ez := World.rowIs.frozen r4
      refine wpAnyH_ready (rs := [13]) (by kernel_rfl) (by simp) ?_
      refine AllReadyH.cons (o := { dst := none, op := _, type := _, pos := _, after := _, guard := _ }) rfl (fun K hK => ?_) AllReadyH.nil
      go_simp
      have hHs := hHeld.1
      clear hHeld
      refine hK.out _ _ (KP _ (ze8 hHs l4)) (fun hHeld => ?_)
      clear hK K d0 d1 d2 d3 d4 d5 d6 d7 d8 d9 ez
      try simp only [Act.put, zxy, zxz, zx0]
      obtain ⟨ws4, hws4⟩ : ∃ V, V = ((((((((((wa.setCell ⟨wf.heap.size, 0, none⟩ (.slice (some ⟨bw, 0, none⟩) ws.length c1)).setCell ⟨wf.heap.size, 1, none⟩ (.int .i64 sm)).setCell ⟨wf.heap.size, 2, none⟩ (.int .i64 toh)).setCell ⟨wf.heap.size, 3, none⟩ (.int .i64 T3)).setCell ⟨wf.heap.size, 4, none⟩ (.bool cyc)).setCell ⟨wf.heap.size, 5, none⟩ (.int .i64 sn)).setCell ⟨wf.heap.size, 6, none⟩ (.int .i64 old)).setCell ⟨wf.heap.size, 7, none⟩ (.int .i64 C3)).setCell ⟨wf.heap.size, 8, none⟩ (.int .i64 sr)).setCell ⟨wf.heap.size, 9, none⟩ (.slice (some ⟨b5, 0, none⟩) rs.length c2)) := ⟨_, rfl⟩
      have r4' : ws4.rowIs wf.heap.size 29 10 (fun i => (#[.slice (some ⟨bw, 0, none⟩) ws.length c1, .int .i64 sm, .int .i64 toh, .int .i64 T3, .bool cyc, .int .i64 sn, .int .i64 old, .int .i64 C3, .int .i64 sr, .slice (some ⟨b5, 0, none⟩) rs.length c2] : Array Value).getD i (.bool false)) := by rw [hws4]; exact zfe r4 rfl rfl rfl rfl rfl rfl rfl rfl rfl rfl
      have r5' : ws4.rowIs wd.heap.size 57 2 (fun i => (#[.int .i64 0, .int .i64 0] : Array Value).getD i (.bool false)) := by rw [hws4]; exact World.rowIs.of_block r5 (za3 n45.symm)
      have hW4 : RwW ws4 bw ws3 := by rw [hws4]; exact Rw.of_block hWa (za3 (by omega))
      rw [<- hws4] at hHeld ⊢
      clear hws4 hHs
      have y0 := r5'.cell (i := 0) (by omega)
      have y1 := r5'.cell (i := 1) (by omega)
      simp at y0 y1
      have ey := World.rowIs.frozen r5'
      refine wpAnyH_ready (rs := [14]) (by kernel_rfl) (by simp) ?_
      refine AllReadyH.cons (o := { dst := none, op := _, type := _, pos := _, after := _, guard := _ }) rfl (fun K hK => ?_) AllReadyH.nil
      go_simp
      have hHs := hHeld.1
      clear hHeld
      refine hK.out _ _ (KP _ ((hHs.setCell (p := ⟨wd.heap.size, 0, none⟩) (.inr l5) _).setCell (p := ⟨wd.heap.size, 1, none⟩) (.inr l5) _)) (fun hHeld => ?_)
      clear hK K
      try simp only [Act.put, zxy, zxz, zx0]
      refine wpAnyH_done (by kernel_rfl) ?_ _
      go_wp2_with fail
      go_meet
      refine ⟨wf.heap.size, wd.heap.size, rfl, rfl, (r4'.setOther (a := ⟨wd.heap.size, 0, none⟩) n45 _).setOther (a := ⟨wd.heap.size, 1, none⟩) n45 _, zfz r5' rfl rfl, l4, l5, n45, Rw.other (Rw.other hW4 (p := ⟨wd.heap.size, 0, none⟩) (by show bw ≠ wd.heap.size; omega) _) (p := ⟨wd.heap.size, 1, none⟩) (by show bw ≠ wd.heap.size; omega) _, hHeld.1⟩
    · go_simp
      have hHa := hHeld.1
      clear hHeld
      refine hK.out _ _ (KP _ (hHa.alloc _)) (fun hHeld => ?_)
      clear hK K
      try simp only [Act.put, zxy, zxz, zx0]
      obtain ⟨wa, hwa⟩ : ∃ V, V = wb.alloc (.cells #[.slice none 0 0, .int .i64 0, .int .i64 0, .int .i64 0, .bool false, .int .i64 0, .int .i64 0, .int .i64 0, .int .i64 0, .slice none 0 0] 29) := ⟨_, rfl⟩
      rw [<- hwa] at hHeld ⊢
      have ba : Below wb.heap.size wb wa := by rw [hwa]; exact (Below.refl _ _).alloc (Nat.le_refl _) _
      have r4 : wa.rowIs wb.heap.size 29 10 (fun i => (#[.slice none 0 0, .int .i64 0, .int .i64 0, .int .i64 0, .bool false, .int .i64 0, .int .i64 0, .int .i64 0, .int .i64 0, .slice none 0 0] : Array Value).getD i (.bool false)) := by rw [hwa]; exact zd3 rfl
      have l4 : w7.heap.size <= wb.heap.size := hHa.size
      have n45 : wb.heap.size ≠ wd.heap.size := by have := World.rowIs.lt r5; omega
      have r5 := World.rowIs.of_block r5 (ba.block _ (World.rowIs.lt r5))
      have hWa := Rw.below hWb ba
      clear hwa hHa ba
      refine wpAnyH_ready (rs := [7]) (by kernel_rfl) (by simp) ?_
      refine AllReadyH.cons (o := { dst := some 81, op := _, type := _, pos := _, after := _, guard := _ }) rfl (fun K hK => ?_) AllReadyH.nil
      go_simp
      go_at_call 44
      refine (HL7.out _ HPX.out _ hWa).mono ?_
      rintro e wf ⟨rfl, hWf, hKf⟩
      have hKn := hHeld.1.trans hKf
      have r4 := World.rowIs.of_block r4 (hKf.block _ (World.rowIs.lt r4) (by simp; omega))
      have r5 := World.rowIs.of_block r5 (hKf.block _ (World.rowIs.lt r5) (by simp; omega))
      have hsz := hKf.size
      clear hHeld hKf
      refine hK.out _ _ (KP _ hKn) (fun hHeld => ?_)
      clear hK K hKn
      try simp only [Act.put, zxy, zxz, zx0]
      refine tk 8 73 (.tuple #[.agg #[.slice (some ⟨bw, 0, none⟩) ws.length c1, .int .i64 sm, .int .i64 toh, .int .i64 T3, .bool cyc, .int .i64 sn, .int .i64 old, .int .i64 C3, .int .i64 sr, .slice (some ⟨b5, 0, none⟩) rs.length c2], .agg #[.int .i64 t3, .int .i64 m3]]) hHeld rfl (by intro w hSw; (try dsimp only at hSw); go_simp) ?_
      try simp only [Act.put, zxy, zxz, zx0]
      refine tk 9 82 (.agg #[.slice (some ⟨bw, 0, none⟩) ws.length c1, .int .i64 sm, .int .i64 toh, .int .i64 T3, .bool cyc, .int .i64 sn, .int .i64 old, .int .i64 C3, .int .i64 sr, .slice (some ⟨b5, 0, none⟩) rs.length c2]) hHeld rfl (by intro w hSw; (try dsimp only at hSw); go_simp) ?_
      try simp only [Act.put, zxy, zxz, zx0]
      refine tk 10 83 (.agg #[.int .i64 t3, .int .i64 m3]) hHeld rfl (by intro w hSw; (try dsimp only at hSw); go_simp) ?_
      try simp only [Act.put, zxy, zxz, zx0]
      obtain ⟨d0, d1, d2, d3, d4, d5, d6, d7, d8, d9⟩ := zd2 r4 rfl rfl rfl rfl rfl rfl rfl rfl rfl rfl
      simp at d0 d1 d2 d3 d4 d5 d6 d7 d8 d9
      have ez := World.rowIs.frozen r4
      refine wpAnyH_ready (rs := [13]) (by kernel_rfl) (by simp) ?_
      refine AllReadyH.cons (o := { dst := none, op := _, type := _, pos := _, after := _, guard := _ }) rfl (fun K hK => ?_) AllReadyH.nil
      go_simp
      have hHs := hHeld.1
      clear hHeld
      refine hK.out _ _ (KP _ (ze8 hHs l4)) (fun hHeld => ?_)
      clear hK K d0 d1 d2 d3 d4 d5 d6 d7 d8 d9 ez
      try simp only [Act.put, zxy, zxz, zx0]
      obtain ⟨ws4, hws4⟩ : ∃ V, V = ((((((((((wf.setCell ⟨wb.heap.size, 0, none⟩ (.slice (some ⟨bw, 0, none⟩) ws.length c1)).setCell ⟨wb.heap.size, 1, none⟩ (.int .i64 sm)).setCell ⟨wb.heap.size, 2, none⟩ (.int .i64 toh)).setCell ⟨wb.heap.size, 3, none⟩ (.int .i64 T3)).setCell ⟨wb.heap.size, 4, none⟩ (.bool cyc)).setCell ⟨wb.heap.size, 5, none⟩ (.int .i64 sn)).setCell ⟨wb.heap.size, 6, none⟩ (.int .i64 old)).setCell ⟨wb.heap.size, 7, none⟩ (.int .i64 C3)).setCell ⟨wb.heap.size, 8, none⟩ (.int .i64 sr)).setCell ⟨wb.heap.size, 9, none⟩ (.slice (some ⟨b5, 0, none⟩) rs.length c2)) := ⟨_, rfl⟩
      have r4' : ws4.rowIs wb.heap.size 29 10 (fun i => (#[.slice (some ⟨bw, 0, none⟩) ws.length c1, .int .i64 sm, .int .i64 toh, .int .i64 T3, .bool cyc, .int .i64 sn, .int .i64 old, .int .i64 C3, .int .i64 sr, .slice (some ⟨b5, 0, none⟩) rs.length c2] : Array Value).getD i (.bool false)) := by rw [hws4]; exact zfe r4 rfl rfl rfl rfl rfl rfl rfl rfl rfl rfl
      have r5' : ws4.rowIs wd.heap.size 57 2 (fun i => (#[.int .i64 0, .int .i64 0] : Array Value).getD i (.bool false)) := by rw [hws4]; exact World.rowIs.of_block r5 (za3 n45.symm)
      have hW4 : RwW ws4 bw ws3 := by rw [hws4]; exact Rw.of_block hWf (za3 (by omega))
      rw [<- hws4] at hHeld ⊢
      clear hws4 hHs
      have y0 := r5'.cell (i := 0) (by omega)
      have y1 := r5'.cell (i := 1) (by omega)
      simp at y0 y1
      have ey := World.rowIs.frozen r5'
      refine wpAnyH_ready (rs := [14]) (by kernel_rfl) (by simp) ?_
      refine AllReadyH.cons (o := { dst := none, op := _, type := _, pos := _, after := _, guard := _ }) rfl (fun K hK => ?_) AllReadyH.nil
      go_simp
      have hHs := hHeld.1
      clear hHeld
      refine hK.out _ _ (KP _ ((hHs.setCell (p := ⟨wd.heap.size, 0, none⟩) (.inr l5) _).setCell (p := ⟨wd.heap.size, 1, none⟩) (.inr l5) _)) (fun hHeld => ?_)
      clear hK K
      try simp only [Act.put, zxy, zxz, zx0]
      refine wpAnyH_done (by kernel_rfl) ?_ _
      go_wp2_with fail
      go_meet
      refine ⟨wb.heap.size, wd.heap.size, rfl, rfl, (r4'.setOther (a := ⟨wd.heap.size, 0, none⟩) n45 _).setOther (a := ⟨wd.heap.size, 1, none⟩) n45 _, zfz r5' rfl rfl, l4, l5, n45, Rw.other (Rw.other hW4 (p := ⟨wd.heap.size, 0, none⟩) (by show bw ≠ wd.heap.size; omega) _) (p := ⟨wd.heap.size, 1, none⟩) (by show bw ≠ wd.heap.size; omega) _, hHeld.1⟩
 case rest =>
  obtain ⟨x4, x5, rfl, rfl, r4, r5, l4, l5, n45, hWc, hKc⟩ := hcut
  have K4 := zx r4 rfl
  have K5 := zx r5 rfl
  have RRc : RwR wc b5 rs.length y := Rw.kp HR7.out hKc (by simp; omega)
  have y0 := RRc.cell (i := j * 2) (by omega)
  have y1 := RRc.cell (i := j * 2 + 1) (by omega)
  have fbr := RRc.frozen
  have hj' : (j : Int) < (rs.length : Int) := by omega
  have na : b5 ≠ x4 := by omega
  have nb : b5 ≠ x5 := by omega
  have HZc : Hid (wc.rowIs (w.heap.size + 1) 29 10 (fun i => (#[.slice none 0 0, .int .i64 0, .int .i64 0, .int .i64 0, .bool false, .int .i64 0, .int .i64 0, .int .i64 0, .int .i64 0, .slice none 0 0] : Array Value).getD i (.bool false))) := World.rowIs.of_block HZ7.out (hKc.block _ (by omega) (by simp; omega))
  have HKc : Hid (Kp [bw] w7 wc) := hKc
  have HWc : Hid (RwW wc bw ws3) := hWc
  have HRc : Hid (RwR wc b5 rs.length y) := RRc
  have HR4 : Hid (wc.rowIs x4 29 10 (fun i => (#[.slice (some ⟨bw, 0, none⟩) ws.length c1, .int .i64 sm, .int .i64 toh, .int .i64 T3, .bool cyc, .int .i64 sn, .int .i64 old, .int .i64 C3, .int .i64 sr, .slice (some ⟨b5, 0, none⟩) rs.length c2] : Array Value).getD i (.bool false))) := r4
  clear r4 r5 hKc hWc RRc KP hWl HR7 HZ7 k7 p7 cs h7 HL7
  go_upto_region 11 with fail
  obtain ⟨w9, hw9⟩ : ∃ V, V = (wc.setCell ⟨b5, j * 2, none⟩ (.int .i64 t3)).setCell ⟨b5, j * 2 + 1, none⟩ (.int .i64 m3) := ⟨_, rfl⟩
  rw [<- hw9]
  have e9 : ∀ x, x ≠ b5 -> w9.heap[x]? = wc.heap[x]? := fun x hx => by rw [hw9]; exact (Below.heap_setCell _ _ _ _ hx).trans (Below.heap_setCell _ _ _ _ hx)
  have HW9 : Hid (RwW w9 bw ws3) := Rw.of_block HWc.out (e9 _ nbw)
  have HR9 : Hid (RwR w9 b5 rs.length (fun i => if i = 2 * j then t3 else if i = 2 * j + 1 then m3 else y i)) := by
   show RwR w9 b5 rs.length (fun i => if i = 2 * j then t3 else if i = 2 * j + 1 then m3 else y i)
   rw [hw9]
   refine Rw.congr (Rw.set (Rw.set HRc.out (j * 2) (.int .i64 t3)) (j * 2 + 1) (.int .i64 m3)) (fun i hi => ?_)
   by_cases e1 : i = j * 2 + 1
   · subst e1; simp; omega
   · by_cases e2 : i = j * 2
     · subst e2; simp; omega
     · simp only [if_neg e1, if_neg e2]; rw [if_neg (by omega), if_neg (by omega)]
  have HK9 : Hid (Kp [bw, b5] w7 w9) := by
   show Kp [bw, b5] w7 w9
   rw [hw9]
   exact ((HKc.out.mono (fun x hx => by simp at hx; simp [hx])).setCell (p := ⟨b5, j * 2, none⟩) (.inl (by simp)) _).setCell (p := ⟨b5, j * 2 + 1, none⟩) (.inl (by simp)) _
  have K49 := zx (World.rowIs.of_block HR4.out (e9 _ na.symm)) rfl
  have Z9 : w9.rowIs (w.heap.size + 1) 29 10 (fun i => (#[.slice none 0 0, .int .i64 0, .int .i64 0, .int .i64 0, .bool false, .int .i64 0, .int .i64 0, .int .i64 0, .int .i64 0, .slice none 0 0] : Array Value).getD i (.bool false)) := World.rowIs.of_block HZc.out (e9 _ (by omega))
  obtain ⟨d0, d1, d2, d3, d4, d5, d6, d7, d8, d9⟩ := zce Z9 rfl rfl rfl rfl rfl rfl rfl rfl rfl rfl
  simp at d0 d1 d2 d3 d4 d5 d6 d7 d8 d9
  have ef := World.rowIs.frozen Z9
  have z79 := HK9.out.size
  have nz4 : w.heap.size + 1 ≠ x4 := by omega
  clear hw9 Z9 HZc K4 K5 y0 y1 fbr HWc HRc HKc HR4 e9
  go_wp2
  have q0 : (w9.cell? ⟨w.heap.size + 1, 0, none⟩).isSome = true := by rw [d0]; rfl
  have q1 : (w9.cell? ⟨w.heap.size + 1, 1, none⟩).isSome = true := by rw [d1]; rfl
  have q2 : (w9.cell? ⟨w.heap.size + 1, 2, none⟩).isSome = true := by rw [d2]; rfl
  have q3 : (w9.cell? ⟨w.heap.size + 1, 3, none⟩).isSome = true := by rw [d3]; rfl
  have q4 : (w9.cell? ⟨w.heap.size + 1, 4, none⟩).isSome = true := by rw [d4]; rfl
  have q5 : (w9.cell? ⟨w.heap.size + 1, 5, none⟩).isSome = true := by rw [d5]; rfl
  have q6 : (w9.cell? ⟨w.heap.size + 1, 6, none⟩).isSome = true := by rw [d6]; rfl
  have q7 : (w9.cell? ⟨w.heap.size + 1, 7, none⟩).isSome = true := by rw [d7]; rfl
  have q8 : (w9.cell? ⟨w.heap.size + 1, 8, none⟩).isSome = true := by rw [d8]; rfl
  have q9 : (w9.cell? ⟨w.heap.size + 1, 9, none⟩).isSome = true := by rw [d9]; rfl
  refine bodyPost_ret (v := .tuple #[.agg #[.slice (some ⟨bw, 0, none⟩) ws.length c1, .int .i64 sm, .int .i64 toh, .int .i64 T3, .bool cyc, .int .i64 sn, .int .i64 old, .int .i64 C3, .int .i64 sr, .slice (some ⟨b5, 0, none⟩) rs.length c2], .bool true]) (by simp [results, Tryz.results12, go_sem, q0, q1, q2, q3, q4, q5, q6, q7, q8, q9]) rfl ⟨_, _, rfl, ?_, ?_⟩
  · exact zn0 hl3 (Rw.of_block HW9.out (za3 (by omega))) (zjm (.inr ⟨rfl, HR9.out⟩) (fun _ => za3 (by omega))) (fun _ => nbw) (by omega) (by simp; omega) (by omega) (by simp; omega)
  · exact zbo (HB7.out.trans (HK9.out.below (fun x hx => by simp at hx; omega) (by omega))) (by omega)
set_option maxHeartbeats 4000000 in
theorem zb2 (aw : Option Addr) (cw : Nat) (ws : List Int) (sm toh top : Int) (cyc : Bool) (sn old cp sr : Int) (ar : Option Addr) (cr : Nat) (rs : List (Int × Int)) (r sl f : Int) (y : Nat -> Int) (Tr : Nat) (w : World) (semj tohj topj : Int) (cycj : Bool) (scanj oldj copiedj serialj : Int) (n m : Nat) (z yj : Nat -> Int) (q : Bool) (hnn : ws.length <= 1048576 -> rs.length <= 1048576 -> n <= 1048576) (hmm : ws.length <= 1048576 -> rs.length <= 1048576 -> m <= 1048576) (hs : Sl w (.slice aw ws.length cw) ws) (hrt : SlF Tr w (.slice ar rs.length cr) rs.length (2 * rs.length) (fun i => .int .i64 (y i))) (hl1 : ws.length <= 9223372036854775807) (hl2 : rs.length <= 9223372036854775807)
 (hspec : ws.length <= 1048576 -> rs.length <= 1048576 -> ∀ (aw : Option Addr) (cw : Nat) (ar : Option Addr) (cr : Nat) (W : World) (T : Nat), Sl W (.slice aw ws.length cw) ws -> SlF T W (.slice ar rs.length cr) rs.length (2 * rs.length) (fun i => .int .i64 (y i)) -> Calls Tryz.prog 12 #[.agg #[.slice aw ws.length cw, .int .i64 sm, .int .i64 toh, .int .i64 top, .bool cyc, .int .i64 sn, .int .i64 old, .int .i64 cp, .int .i64 sr, .slice ar rs.length cr], .int .i64 r, .int .i64 sl, .int .i64 f] W fun e w' => ∃ vw vr, e = .returned (.tuple #[.agg #[vw, .int .i64 semj, .int .i64 tohj, .int .i64 topj, .bool cycj, .int .i64 scanj, .int .i64 oldj, .int .i64 copiedj, .int .i64 serialj, vr], .bool q]) /\ zak W.heap.size w'.heap.size w' vw vr n m z yj /\ Below W.heap.size W w')
 (himpl : ws.length <= 1048576 -> rs.length <= 1048576 -> ∀ (aw : Option Addr) (cw : Nat) (ar : Option Addr) (cr : Nat) (W : World) (T : Nat), Below w.heap.size w W -> Sl W (.slice aw ws.length cw) ws -> ws.length <= cw -> SlF T W (.slice ar rs.length cr) rs.length (2 * rs.length) (fun i => .int .i64 (y i)) -> Calls Tryz.prog 14 #[.agg #[.slice aw ws.length cw, .int .i64 sm, .int .i64 toh, .int .i64 top, .bool cyc, .int .i64 sn, .int .i64 old, .int .i64 cp, .int .i64 sr, .slice ar rs.length cr], .int .i64 r, .int .i64 sl, .int .i64 f] W fun e w' => ∃ vw vr, e = .returned (.tuple #[.agg #[vw, .int .i64 semj, .int .i64 tohj, .int .i64 topj, .bool cycj, .int .i64 scanj, .int .i64 oldj, .int .i64 copiedj, .int .i64 serialj, vr], .bool q]) /\ zak W.heap.size w'.heap.size w' vw vr n m z yj /\ Below W.heap.size W w') :
 Calls Tryz.prog 3 #[.agg #[.slice aw ws.length cw, .int .i64 sm, .int .i64 toh, .int .i64 top, .bool cyc, .int .i64 sn, .int .i64 old, .int .i64 cp, .int .i64 sr, .slice ar rs.length cr], .int .i64 r, .int .i64 sl, .int .i64 f] w fun e w' => e = .returned (.bool true) /\ Below w.heap.size w w' := by
 by_cases h : (ws.length : Int) + rs.length <= 1048576
 · have hn : ws.length <= 1048576 := by omega
   have hn2 : rs.length <= 1048576 := by omega
   have h0 : ¬ (1048576 - (ws.length : Int) - rs.length) < 0 := by omega
   have hnn := hnn hn hn2
   have hmm := hmm hn hn2
   have k0 : ¬ (1 + (n : Int) + 2 * m) < 0 := by omega
   have k0' : ¬ (1 + (ws.length : Int) + 2 * rs.length) < 0 := by omega
   have HSZ : ∀ W, _ := fun W => zi0 aw ws.length cw sm toh top cyc sn old cp sr ar rs.length cr W hl1 hl2
   rw [if_pos h] at HSZ
   have HTA : Hid (∀ W, Below w.heap.size w W -> _) := fun W (hW : Below w.heap.size w W) => zpm aw cw ws sm toh top cyc sn old cp sr ar cr rs y w.heap.size W (hs.below hW) hn (hrt.here.below hW (Nat.le_refl _)) hn2
   have HSP : Hid _ := hspec hn hn2
   have HIM : Hid _ := himpl hn hn2
   clear hs hrt h hl1 hl2 hspec himpl
   go_enter Tryz.func3, Tryz.ntmps3
   go_wp2_with fail
   refine (HSZ _).mono ?_
   rintro e w1 ⟨rfl, b1⟩
   have B1 := ze b1
   have k1 := zp b1 (by simp)
   have z1 := zr b1
   clear b1
   go_wp2_with fail
   refine (HTA.out _ B1).mono ?_
   rintro e w2 ⟨x1, x2, rfl, o2, b2⟩
   have B2 := zc B1 b2
   have k2 := zd k1 b2 z1
   have z2 := Nat.lt_of_lt_of_le z1 b2.size
   obtain ⟨s2, r2⟩ := zjl o2
   clear b2 k1 o2
   go_wp2_with fail
   refine (HSP.out (some ⟨x1, 0, none⟩) ws.length (some ⟨x2, 0, none⟩) rs.length _ _ s2 r2).mono ?_
   rintro e w3 ⟨vw, vr, rfl, o3, b3⟩
   obtain ⟨a1, c1, rfl⟩ := o3.sl.1.head
   obtain ⟨a2, c2, rfl⟩ := o3.sl.2.head
   have B3 := zc B2 b3
   have k3 := zd k2 b3 z2
   have z3 := Nat.lt_of_lt_of_le z2 b3.size
   clear b3 k2 s2 r2
   have B3' := zam (o := .cells #[.slice a1 n c1, .int .i64 semj, .int .i64 tohj, .int .i64 topj, .bool cycj, .int .i64 scanj, .int .i64 oldj, .int .i64 copiedj, .int .i64 serialj, .slice a2 m c2] 29) B3
   go_wp2_with fail
   refine (HTA.out _ B3').mono ?_
   rintro e w4 ⟨x3, x4, rfl, o4, b4⟩
   simp only [World.size_alloc] at o4
   have B4 := zc B3' b4
   have k4 := zd (zd k3 ((Below.refl w3.heap.size w3).alloc (Nat.le_refl _) _) z3) b4 (by simp; omega)
   have q4 := zp b4 (by simp)
   have z4 : w3.heap.size < w4.heap.size := zr b4
   have S4 := o3.sl.1.below (ze b4) (Nat.le_refl _)
   have R4 := o3.sl.2.below (ze b4) (Nat.le_refl _)
   clear k3 b4 o3 B3'
   have A4 : Below w4.heap.size w4 (w4.alloc (.cells #[.slice (some ⟨x3, 0, none⟩) ws.length ws.length, .int .i64 sm, .int .i64 toh, .int .i64 top, .bool cyc, .int .i64 sn, .int .i64 old, .int .i64 cp, .int .i64 sr, .slice (some ⟨x4, 0, none⟩) rs.length rs.length] 29)) := (Below.refl _ _).alloc (Nat.le_refl _) _
   obtain ⟨s4, r4⟩ := zjl (o4.below A4 (Nat.le_refl _))
   go_wp2_with fail
   refine (HIM.out (some ⟨x3, 0, none⟩) ws.length (some ⟨x4, 0, none⟩) rs.length _ _ (zam B4) s4 (Nat.le_refl _) r4).mono ?_
   rintro e w5 ⟨vw, vr, rfl, o5, b5⟩
   obtain ⟨a3, c3, rfl⟩ := o5.sl.1.head
   obtain ⟨a4, c4, rfl⟩ := o5.sl.2.head
   have b5f := ze b5
   have B5 := zc (zam B4) b5
   have k5 := zd k4 b5f (by omega)
   have q5 := zd q4 b5f z4
   have p5 := zp b5 (by simp)
   have z5 : w4.heap.size < w5.heap.size := zr b5
   have z35 : w3.heap.size < w5.heap.size := by omega
   have o4' := o4.below b5f (Nat.le_refl _)
   have S5 := S4.below b5f (by omega)
   have R5 := R4.below b5f (by omega)
   clear k4 q4 b5 b5f o4 S4 R4 A4 s4 r4
   have A5 : Below w5.heap.size w5 (w5.alloc (.cells #[.slice a3 n c3, .int .i64 semj, .int .i64 tohj, .int .i64 topj, .bool cycj, .int .i64 scanj, .int .i64 oldj, .int .i64 copiedj, .int .i64 serialj, .slice a4 m c4] 29)) := (Below.refl _ _).alloc (Nat.le_refl _) _
   simp only [World.size_alloc] at o5
   go_wp2_with fail
   refine (zev _ _ _ _ _ _ _ _ n m z yj _ _ _ _ _ _ _ _ _ (o5.sl.1.below A5 (Nat.le_refl _)) (S5.below A5 (by omega)) hnn (o5.sl.2.below A5 (Nat.le_refl _)) (R5.below A5 (by omega)) hmm).mono ?_
   rintro e w6 ⟨rfl, b6⟩
   have b6f := ze b6
   have B6 := zc B5 b6f
   have k6 := zd k5 b6f (by omega)
   have q6 := zd q5 b6f (by omega)
   have p6 := zd p5 b6f (by omega)
   have g6 := zp b6 (by simp)
   have z6 : w5.heap.size < w6.heap.size := zr b6
   have o6 := o5.below b6f (Nat.le_refl _)
   have ox := o4'.below b6f (by omega)
   have S6 := S5.below b6f (by omega)
   have R6 := R5.below b6f (by omega)
   clear k5 q5 p5 b6 b6f o5 o4' S5 R5 A5
   go_wp2_with fail
   have KP : ∀ V, Below w6.heap.size w6 V -> (Below w6.heap.size w6 V /\ (∀ i, V.cell? ⟨w.heap.size, i, none⟩ = (#[.slice aw ws.length cw, .int .i64 sm, .int .i64 toh, .int .i64 top, .bool cyc, .int .i64 sn, .int .i64 old, .int .i64 cp, .int .i64 sr, .slice ar rs.length cr] : Array Value)[i]?) /\ (∀ i, V.cell? ⟨w4.heap.size, i, none⟩ = (#[.slice (some ⟨x3, 0, none⟩) ws.length ws.length, .int .i64 sm, .int .i64 toh, .int .i64 top, .bool cyc, .int .i64 sn, .int .i64 old, .int .i64 cp, .int .i64 sr, .slice (some ⟨x4, 0, none⟩) rs.length rs.length] : Array Value)[i]?)) := fun V hV => ⟨hV, zd k6 hV (by omega), zd p6 hV (by omega)⟩
   have b6' := (Below.refl w6.heap.size w6).drew
   have HK : Hid (∀ V, Below w6.heap.size w6 V -> (∀ i, V.cell? ⟨w.heap.size, i, none⟩ = (#[.slice aw ws.length cw, .int .i64 sm, .int .i64 toh, .int .i64 top, .bool cyc, .int .i64 sn, .int .i64 old, .int .i64 cp, .int .i64 sr, .slice ar rs.length cr] : Array Value)[i]?) /\ (∀ i, V.cell? ⟨w3.heap.size, i, none⟩ = (#[.slice a1 n c1, .int .i64 semj, .int .i64 tohj, .int .i64 topj, .bool cycj, .int .i64 scanj, .int .i64 oldj, .int .i64 copiedj, .int .i64 serialj, .slice a2 m c2] : Array Value)[i]?) /\ (∀ i, V.cell? ⟨w4.heap.size, i, none⟩ = (#[.slice (some ⟨x3, 0, none⟩) ws.length ws.length, .int .i64 sm, .int .i64 toh, .int .i64 top, .bool cyc, .int .i64 sn, .int .i64 old, .int .i64 cp, .int .i64 sr, .slice (some ⟨x4, 0, none⟩) rs.length rs.length] : Array Value)[i]?) /\ (∀ i, V.cell? ⟨w5.heap.size, i, none⟩ = (#[.slice a3 n c3, .int .i64 semj, .int .i64 tohj, .int .i64 topj, .bool cycj, .int .i64 scanj, .int .i64 oldj, .int .i64 copiedj, .int .i64 serialj, .slice a4 m c4] : Array Value)[i]?)) := fun V hV => ⟨zd k6 hV (by omega), zd q6 hV (by omega), zd p6 hV (by omega), zd g6 hV (by omega)⟩
   have F6 := ox.sl.1
   have R6' := ox.sl.2
   have HS6 : Hid (SlF w3.heap.size w6 (.slice a1 n c1) n n (fun i => .int .u64 (z i))) := S6
   have HR6 : Hid (SlF w3.heap.size w6 (.slice a2 m c2) m (2 * m) (fun i => .int .i64 (yj i))) := R6
   have Ho6 : Hid (zak (w4.heap.size + 1) w5.heap.size w6 (.slice a3 n c3) (.slice a4 m c4) n m z yj) := o6
   have Hox : Hid (zak (w3.heap.size + 1) w4.heap.size w6 (.slice (some ⟨x3, 0, none⟩) ws.length ws.length) (.slice (some ⟨x4, 0, none⟩) rs.length rs.length) ws.length rs.length (za ws) y) := ox
   clear k6 q6 p6 g6 HSZ HSP S6 R6 o6 ox
   go_region_held3 (fun V => Below w6.heap.size w6 V /\ (∀ i, V.cell? ⟨w.heap.size, i, none⟩ = (#[.slice aw ws.length cw, .int .i64 sm, .int .i64 toh, .int .i64 top, .bool cyc, .int .i64 sn, .int .i64 old, .int .i64 cp, .int .i64 sr, .slice ar rs.length cr] : Array Value)[i]?) /\ (∀ i, V.cell? ⟨w4.heap.size, i, none⟩ = (#[.slice (some ⟨x3, 0, none⟩) ws.length ws.length, .int .i64 sm, .int .i64 toh, .int .i64 top, .bool cyc, .int .i64 sn, .int .i64 old, .int .i64 cp, .int .i64 sr, .slice (some ⟨x4, 0, none⟩) rs.length rs.length] : Array Value)[i]?)) (first | assumption | exact KP _ b6' | exact KP _ (by assumption)) (first | (go_at_call 13; refine (HTA.out _ (zc B6 (And.left (by assumption)))).mono ?_; rintro e w7 ⟨x5, x6, rfl, o7, bb⟩; have hB7 := zc (w := w6) (And.left (by assumption)) bb; clear bb) | (go_at_call 15; refine (zev _ _ _ _ _ _ _ _ ws.length rs.length (za ws) y _ _ _ _ _ _ _ _ _ (F6.below hB7 (by omega)) o7.sl.1 hn (R6'.below hB7 (by omega)) o7.sl.2 hn2).mono ?_; rintro e w8 ⟨rfl, bb⟩; have hB8 := zc (w := w6) hB7 bb; clear bb))
   all_goals
    have B8 := zc B6 hB8
    obtain ⟨k8, q8, p8, g8⟩ := HK.out _ hB8
    have z8 := hB8.size
    have o8 := Ho6.out.below hB8 (by omega)
    have ox8 := Hox.out.below hB8 (by omega)
    have S8 := HS6.out.below hB8 (by omega)
    have R8 := HR6.out.below hB8 (by omega)
    clear HK KP hB7 hB8 o7 F6 R6' HS6 HR6 Ho6 Hox b6'
    obtain ⟨y1, t1, y2, t2, g1, g2, g3, g4, g5, gg6, g7⟩ := ox8
    go_wp2_with fail
    refine (zhm y1 t1 y2 t2 (w3.heap.size + 1) w4.heap.size _ _ ws.length rs.length (za ws) y _ _ _ _ _ _ _ _ _ gg6 hn g7 hn2 g5 (by omega) g2 (by omega) g4 (by omega)).mono ?_
    rintro e w9 ⟨rfl, _, _, A9⟩
    have k9 := zdm k8 A9 (by omega) (by omega)
    have q9 := zdm q8 A9 (by omega) (by omega)
    have g9 := zdm g8 A9 (by omega) (by omega)
    have S9 := S8.apart A9 (by omega)
    have R9 := R8.apart A9 (by omega)
    have zb := B3.size
    have B9 := B8.trans (A9.below (by omega) (by omega))
    have z9 := A9.size
    have o9 := zpn o8 A9 (by omega)
    clear k8 q8 p8 g8 S8 R8 A9 gg6 g7 o8
    go_wp2_with fail
    refine (zev _ _ _ _ _ _ _ _ n m z yj _ _ _ _ _ _ _ _ _ o9.sl.1 S9 hnn o9.sl.2 R9 hmm).mono ?_
    rintro e w10 ⟨rfl, b10⟩
    have B10 := zc B9 b10
    have z10 := b10.size
    have k10 := zd k9 b10 (by omega)
    have q10 := zd q9 b10 (by omega)
    have g10 := zd g9 b10 (by omega)
    have S10 := S9.below b10 (by omega)
    have R10 := R9.below b10 (by omega)
    have o10 := o9.below b10 (by omega)
    clear k9 q9 g9 S9 R9 o9 b10
    obtain ⟨u1, v1, u2, v2, i1, i2, i3, i4, i5, i6, i7⟩ := o10
    go_wp2_with fail
    refine (zhm u1 v1 u2 v2 (w4.heap.size + 1) w5.heap.size _ _ n m z yj _ _ _ _ _ _ _ _ _ i6 hnn i7 hmm i5 (by omega) i2 (by omega) i4 (by omega)).mono ?_
    rintro e w11 ⟨rfl, h11, r11, A11⟩
    have k11 := zdm k10 A11 (by omega) (by omega)
    have q11 := zdm q10 A11 (by omega) (by omega)
    have g11 := zdm g10 A11 (by omega) (by omega)
    have S11 := S10.apart A11 (by omega)
    have R11 := R10.apart A11 (by omega)
    have B11 := B10.trans (A11.below (by omega) (by omega))
    have z11 := A11.size
    clear k10 q10 g10 S10 R10 A11 i6 i7
    go_wp2_with fail
    refine (zhn _ _ _ _ n m _ _ _ _ _ _ _ _ _ h11.sl hnn r11.sl hmm).mono ?_
    rintro e w12 ⟨rfl, b12⟩
    have z12 := b12.size
    have k12 := zd k11 b12 (by omega)
    have q12 := zd q11 b12 (by omega)
    have g12 := zd g11 b12 (by omega)
    have h12 := h11.below b12 (by omega)
    have r12 := r11.below b12 (by omega)
    have S12 := S11.below b12 (by omega)
    have R12 := R11.below b12 (by omega)
    have B12 := zc B11 b12
    clear k11 q11 g11 h11 r11 S11 R11 b12
    go_wp2_with fail
    refine (HTA.out _ B12).mono ?_
    rintro e w13 ⟨x7, x8, rfl, o13, b13⟩
    have z13 := b13.size
    have q13 := zd q12 b13 (by omega)
    have g13 := zd g12 b13 (by omega)
    have h13 := h12.below b13 (by omega)
    have r13 := r12.below b13 (by omega)
    have S13 := S12.below b13 (by omega)
    have R13 := R12.below b13 (by omega)
    have B13 := zc B12 b13
    obtain ⟨s13, l13⟩ := zjl o13
    clear k12 q12 g12 h12 r12 S12 R12 b13 o13
    go_wp2_with fail
    refine (HIM.out (some ⟨x7, 0, none⟩) ws.length (some ⟨x8, 0, none⟩) rs.length _ _ B13 s13 (Nat.le_refl _) l13).mono ?_
    rintro e w14 ⟨vw, vr, rfl, o14, b14⟩
    obtain ⟨a5, c5, rfl⟩ := o14.sl.1.head
    obtain ⟨a6, c6, rfl⟩ := o14.sl.2.head
    have z14 := b14.size
    have q14 := zd q13 b14 (by omega)
    have g14 := zd g13 b14 (by omega)
    have h14 := h13.below b14 (by omega)
    have r14 := r13.below b14 (by omega)
    have S14 := S13.below b14 (by omega)
    have R14 := R13.below b14 (by omega)
    have B14 := zc B13 b14
    clear q13 g13 h13 r13 S13 R13 b14 s13 l13
    have A14 : Below w14.heap.size w14 (w14.alloc (.cells #[.slice a5 n c5, .int .i64 semj, .int .i64 tohj, .int .i64 topj, .bool cycj, .int .i64 scanj, .int .i64 oldj, .int .i64 copiedj, .int .i64 serialj, .slice a6 m c6] 29)) := (Below.refl _ _).alloc (Nat.le_refl _) _
    have l5 : w3.heap.size < w14.heap.size := by omega
    have l7 : w5.heap.size < w14.heap.size := by omega
    go_wp2_with fail
    refine (zev _ _ _ _ _ _ _ _ n m z yj _ _ _ _ _ _ _ _ _ (o14.sl.1.below A14 (Nat.le_refl _)) (S14.below A14 (by omega)) hnn (o14.sl.2.below A14 (Nat.le_refl _)) (R14.below A14 (by omega)) hmm).mono ?_
    rintro e w15 ⟨rfl, b15⟩
    have z15 := zr b15
    have g15 := zd g14 (ze b15) (by omega)
    have h15 := h14.below (ze b15) (by omega)
    have r15 := r14.below (ze b15) (by omega)
    have B15 := zc B14 (ze b15)
    clear q14 g14 h14 r14 S14 R14 A14 b15 o14
    go_wp2_with fail
    refine (zhn _ _ _ _ n m _ _ _ _ _ _ _ _ _ h15.sl hnn r15.sl hmm).mono ?_
    rintro e w16 ⟨rfl, b16⟩
    have B16 := zc B15 b16
    go_wp2
    go_ret
    exact ⟨rfl, B16⟩
 · have HSZ : ∀ W, _ := fun W => zi0 aw ws.length cw sm toh top cyc sn old cp sr ar rs.length cr W hl1 hl2
   rw [if_neg h] at HSZ
   clear hs hrt h hspec himpl
   go_enter Tryz.func3, Tryz.ntmps3
   go_wp2_with (go_at_call 11; refine (HSZ _).mono ?_; rintro e w1 ⟨rfl, b1⟩)
   go_ret
   exact ⟨rfl, ze b1⟩
end Go.Proofs.YtdnhohndppmgcaaGreatDoor
