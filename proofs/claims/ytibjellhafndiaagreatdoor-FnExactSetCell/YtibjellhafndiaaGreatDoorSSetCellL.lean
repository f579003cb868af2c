/- The model's SetCell, where it answers. -/
import Derived.Test.YtibjellhafndiaaGreatDoorProg
import Derived.Test.YtibjellhafndiaaGreatDoorSScI
import Derived.Deep.RegionHeld3
import Derived.Test.YtibjellhafndiaaGreatDoorSLawD
namespace Go.Proofs.YtibjellhafndiaaGreatDoor
set_option maxRecDepth 20000
open Go.RowKit
set_option linter.unusedSimpArgs false
set_option linter.unusedVariables false

set_option maxHeartbeats 20000000 in
theorem specSetCell_yes (aw : Option Addr) (cw : Nat) (ws : List Int) (semi toh top : Int) (cyc : Bool) (scan old copied serial : Int) (ar : Option Addr) (cr : Nat) (rs : List (Int × Int)) (k j p : Nat) (y : Nat → Int) (Tr : Nat) (w : World) (hs : Sl w (.slice aw ws.length cw) ws) (hn : ws.length ≤ 1048576) (hw : Words64 ws) (hrt : SlF Tr w (.slice ar rs.length cr) rs.length (2 * rs.length) (fun i => .int .i64 (y i))) (hn2 : rs.length ≤ 1048576) (hok : ArOk ws semi toh top cyc scan old copied serial y rs.length) (hk : k < rs.length) (hj : j < rs.length) (h9 : y (2 * k) = 9) (hp : y (2 * k + 1) = (p : Int)) (hp2 : p + 2 < ws.length) :
    Calls Tryz.prog 22 #[.agg #[.slice aw ws.length cw, .int .i64 semi, .int .i64 toh, .int .i64 top, .bool cyc, .int .i64 scan, .int .i64 old, .int .i64 copied, .int .i64 serial, .slice ar rs.length cr], .int .i64 (k : Int), .int .i64 (j : Int)] w fun e w' => ∃ vw vr, e = .returned (.tuple #[.agg #[vw, .int .i64 semi, .int .i64 toh, .int .i64 top, .bool cyc, .int .i64 scan, .int .i64 old, .int .i64 copied, .int .i64 serial, vr], .bool true]) ∧ OwnAr w.heap.size w'.heap.size w' vw vr ws.length rs.length (wordAt (putW ws (p + 1) (y (2 * j)) (y (2 * j + 1)))) y ∧ Below w.heap.size w w' := by
  have HS : Hid (Sl w (.slice aw ws.length cw) ws) := hs
  have HR : Hid (SlF w.heap.size w (.slice ar rs.length cr) rs.length (2 * rs.length) (fun i => .int .i64 (y i))) := hrt.here
  have HQ : Hid (ArOk ws semi toh top cyc scan old copied serial y rs.length) := hok
  have HPY : Hid (y (2 * k + 1) = (p : Int)) := hp
  have H9 : Hid (y (2 * k) = 9) := h9
  clear hs hrt hok hp h9
  go_enter Tryz.func22, Tryz.ntmps22
  go_wp2_with fail
  refine (l2Copy_at _ _ _ _ _ _ _ _ _ _ _ _ _ _ y w.heap.size _ (HS.out.below (below_second (Below.refl _ _))) hn (HR.out.below (below_second (Below.refl _ _)) (Nat.le_refl _)) hn2).mono ?_
  rintro e w1 ⟨vw, vr, rfl, o1, b1⟩
  simp only [World.size_alloc] at o1
  obtain ⟨a1, c1, rfl⟩ := o1.sl.1.head
  obtain ⟨a2, c2, rfl⟩ := o1.sl.2.head
  have B1 := below_second b1
  have l1 : w.heap.size + 1 < w1.heap.size := by have := b1.size; simp at this; omega
  have l0 : w.heap.size < w1.heap.size := by omega
  have k1 : ∀ i, w1.cell? ⟨w.heap.size, i, none⟩ = (#[.slice aw ws.length cw, .int .i64 semi, .int .i64 toh, .int .i64 top, .bool cyc, .int .i64 scan, .int .i64 old, .int .i64 copied, .int .i64 serial, .slice ar rs.length cr] : Array Value)[i]? := fun i => by rw [b1.cell (p := ⟨w.heap.size, i, none⟩) (by simp <;> omega)]; simp [go_sem]
  obtain ⟨_, hres⟩ := box_row2 (n := 10) b1 (by simp) rfl rfl
  have Z1 : w1.rowIs (w.heap.size + 1) 29 10 (fun i => (#[.slice none 0 0, .int .i64 0, .int .i64 0, .int .i64 0, .bool false, .int .i64 0, .int .i64 0, .int .i64 0, .int .i64 0, .slice none 0 0] : Array Value).getD i (.bool false)) := hres
  have HZ1 : Hid _ := Z1
  clear b1 hres Z1
  go_wp2_with fail
  refine (specArenaOk_at _ _ _ _ _ _ _ _ _ _ _ _ _ _ y w.heap.size _ (HS.out.below (below_box B1)) hn hw (HR.out.below (below_box B1) (Nat.le_refl _)) hn2).mono ?_
  rintro e w2 ⟨q, rfl, hq, b2⟩
  obtain rfl := hq.2 HQ.out
  have b2f := below_first b2
  have p2 := one_cells b2 (by simp)
  have z2 : w1.heap.size < w2.heap.size := size_first b2
  have B2 := below_next B1 b2f
  have k2 := has_below k1 b2f (by omega)
  have o2 := o1.below b2f (by omega)
  have HZ2 : Hid (w2.rowIs (w.heap.size + 1) 29 10 (fun i => (#[.slice none 0 0, .int .i64 0, .int .i64 0, .int .i64 0, .bool false, .int .i64 0, .int .i64 0, .int .i64 0, .int .i64 0, .slice none 0 0] : Array Value).getD i (.bool false))) := World.rowIs.of_block HZ1.out (b2f.block _ (by omega))
  clear k1 b2 b2f o1 HZ1 hq B1
  go_wp2_with fail
  refine (l2Root_any _ _ _ _ _ _ _ _ _ _ _ _ _ _ _ _ hn2).mono ?_
  rintro e w3 ⟨rfl, b3⟩
  rw [show hasR (k : Int) rs.length = true from (decide_eq_true ⟨by omega, by omega⟩)]
  have z3 : w1.heap.size < w3.heap.size := Nat.lt_of_lt_of_le z2 b3.size
  have B3 := below_next B2 b3
  have k3 := has_below k2 b3 (by omega)
  have p3 := has_below p2 b3 (by omega)
  have o3 := o2.below b3 (by omega)
  have HZ3 : Hid (w3.rowIs (w.heap.size + 1) 29 10 (fun i => (#[.slice none 0 0, .int .i64 0, .int .i64 0, .int .i64 0, .bool false, .int .i64 0, .int .i64 0, .int .i64 0, .int .i64 0, .slice none 0 0] : Array Value).getD i (.bool false))) := World.rowIs.of_block HZ2.out (b3.block _ (by omega))
  clear k2 p2 b3 o2 HZ2 B2
  go_wp2_with fail
  refine (l2Root_any _ _ _ _ _ _ _ _ _ _ _ _ _ _ _ _ hn2).mono ?_
  rintro e w4 ⟨rfl, b4⟩
  rw [show hasR (j : Int) rs.length = true from (decide_eq_true ⟨by omega, by omega⟩)]
  have z4 : w1.heap.size < w4.heap.size := Nat.lt_of_lt_of_le z3 b4.size
  have B4 := below_next B3 b4
  have k4 := has_below k3 b4 (by omega)
  have p4 := has_below p3 b4 (by omega)
  have o4 := o3.below b4 (by omega)
  have HZ4 : Hid (w4.rowIs (w.heap.size + 1) 29 10 (fun i => (#[.slice none 0 0, .int .i64 0, .int .i64 0, .int .i64 0, .bool false, .int .i64 0, .int .i64 0, .int .i64 0, .int .i64 0, .slice none 0 0] : Array Value).getD i (.bool false))) := World.rowIs.of_block HZ3.out (b4.block _ (by omega))
  clear k3 p3 b4 o3 HZ3 B3
  obtain ⟨br, offr, cap', hv, _, lbr, hcr⟩ := HR.out.parts (k := 0) (by omega)
  simp only [Value.slice.injEq] at hv
  obtain ⟨rfl, _, rfl⟩ := hv
  have x0 : w4.cell? ⟨br, offr + k * 2, none⟩ = some (.int .i64 (y (2 * k))) := by rw [B4.cell (p := ⟨br, offr + k * 2, none⟩) lbr, Nat.mul_comm]; exact hcr (2 * k) (by omega)
  have x1 : w4.cell? ⟨br, offr + k * 2 + 1, none⟩ = some (.int .i64 (y (2 * k + 1))) := by rw [B4.cell (p := ⟨br, offr + k * 2 + 1, none⟩) lbr, Nat.mul_comm]; exact hcr (2 * k + 1) (by omega)
  have x2 : w4.cell? ⟨br, offr + j * 2, none⟩ = some (.int .i64 (y (2 * j))) := by rw [B4.cell (p := ⟨br, offr + j * 2, none⟩) lbr, Nat.mul_comm]; exact hcr (2 * j) (by omega)
  have x3 : w4.cell? ⟨br, offr + j * 2 + 1, none⟩ = some (.int .i64 (y (2 * j + 1))) := by rw [B4.cell (p := ⟨br, offr + j * 2 + 1, none⟩) lbr, Nat.mul_comm]; exact hcr (2 * j + 1) (by omega)
  have hk' : (k : Int) < (rs.length : Int) := by omega
  have hj' : (j : Int) < (rs.length : Int) := by omega
  rw [H9.out] at x0
  rw [HPY.out] at x1
  obtain ⟨t2, ht2⟩ : ∃ t, t = y (2 * j) := ⟨_, rfl⟩
  obtain ⟨m2, hm2⟩ : ∃ t, t = y (2 * j + 1) := ⟨_, rfl⟩
  rw [← ht2] at x2
  rw [← hm2] at x3
  have HT2 : Hid (t2 = y (2 * j)) := ht2
  have HM2 : Hid (m2 = y (2 * j + 1)) := hm2
  clear ht2 hm2
  clear hcr
  obtain ⟨bw, b5, rfl, hW, hR, hne, b1', b2', b3', b4'⟩ := ownAr_rows rfl (by omega) o4
  have HW : Hid (RwW w4 bw ws) := hW
  have HRR : Hid (OwnR w4 a2 b5 rs.length y) := hR
  have HB4 : Hid (Below w.heap.size w w4) := B4
  have lb4 : br < w4.heap.size := Nat.lt_of_lt_of_le lbr B4.size
  have nbr : br ≠ bw := by omega
  have nz : br ≠ w.heap.size + 1 := by omega
  have HPW : Hid (IntKind.i64.wrap ((p : Int) + 1) = ((p + 1 : Nat) : Int)) := by show _ = _; rw [IntKind.wrap_i64]; omega
  have KP : ∀ V, Kp [bw, w.heap.size + 1] w4 V → (Kp [bw, w.heap.size + 1] w4 V ∧ (∀ i, V.cell? ⟨w.heap.size, i, none⟩ = (#[.slice aw ws.length cw, .int .i64 semi, .int .i64 toh, .int .i64 top, .bool cyc, .int .i64 scan, .int .i64 old, .int .i64 copied, .int .i64 serial, .slice (some ⟨br, offr, none⟩) rs.length cr] : Array Value)[i]?) ∧ (∀ i, V.cell? ⟨w1.heap.size, i, none⟩ = (#[.slice (some ⟨bw, 0, none⟩) ws.length c1, .int .i64 semi, .int .i64 toh, .int .i64 top, .bool cyc, .int .i64 scan, .int .i64 old, .int .i64 copied, .int .i64 serial, .slice a2 rs.length c2] : Array Value)[i]?) ∧ V.cell? ⟨br, offr + k * 2, none⟩ = some (.int .i64 9) ∧ V.cell? ⟨br, offr + k * 2 + 1, none⟩ = some (.int .i64 (p : Int)) ∧ V.cell? ⟨br, offr + j * 2, none⟩ = some (.int .i64 t2) ∧ V.cell? ⟨br, offr + j * 2 + 1, none⟩ = some (.int .i64 m2)) := fun V hV => ⟨hV, Kp.has k4 hV (by omega) (by simp; omega), Kp.has p4 hV (by omega) (by simp; omega), by rw [hV.cell (p := ⟨br, offr + k * 2, none⟩) lb4 (by simp; omega)]; exact x0, by rw [hV.cell (p := ⟨br, offr + k * 2 + 1, none⟩) lb4 (by simp; omega)]; exact x1, by rw [hV.cell (p := ⟨br, offr + j * 2, none⟩) lb4 (by simp; omega)]; exact x2, by rw [hV.cell (p := ⟨br, offr + j * 2 + 1, none⟩) lb4 (by simp; omega)]; exact x3⟩
  have kd : Kp [bw, w.heap.size + 1] w4 w4.drew := (Kp.refl _ _).drew
  have HPT : Hid (∀ a : Int, a = ((p + 1 : Nat) : Int) → Calls Tryz.prog 61 #[.agg #[.slice (some ⟨bw, 0, none⟩) ws.length c1, .int .i64 semi, .int .i64 toh, .int .i64 top, .bool cyc, .int .i64 scan, .int .i64 old, .int .i64 copied, .int .i64 serial, .slice a2 rs.length c2], .int .i64 a, .agg #[.int .i64 t2, .int .i64 m2]] w4.drew fun e w' => e = .returned (.agg #[.slice (some ⟨bw, 0, none⟩) ws.length c1, .int .i64 semi, .int .i64 toh, .int .i64 top, .bool cyc, .int .i64 scan, .int .i64 old, .int .i64 copied, .int .i64 serial, .slice a2 rs.length c2]) ∧ RwW w' bw (putW ws (p + 1) t2 m2) ∧ Kp [bw] w4.drew w') := fun a ha => l4Put_at bw c1 ws semi toh top cyc scan old copied serial a2 c2 rs (p + 1) a t2 m2 w4.drew ha HW.out.drew (by omega) hn
  go_upto_region 4 with fail
  clear hW hR o4 B4 KP
  go_region_with (go_at_call 61; refine (HPT.out _ (by first | exact HPW.out | rfl)).mono ?_; rintro e w5 ⟨rfl, hW5, hK5⟩; have hK45 : Kp [bw, w.heap.size + 1] w4 w5 := kd.trans (hK5.mono (fun x hx => by simp at hx; simp [hx])); have RZ5 := World.rowIs.of_block HZ4.out (hK5.block (w.heap.size + 1) (show w.heap.size + 1 < w4.heap.size by omega) (by simp; omega)); obtain ⟨d0, d1, d2, d3, d4, d5, d6, d7, d8, d9⟩ := row10 RZ5 rfl rfl rfl rfl rfl rfl rfl rfl rfl rfl; simp at d0 d1 d2 d3 d4 d5 d6 d7 d8 d9; have ef := World.rowIs.frozen RZ5; have HW5 : Hid (RwW w5 bw (putW ws (p + 1) t2 m2)) := hW5; have HK5 : Hid (Kp [bw] w4 w5) := ((Kp.refl [bw] w4).drew).trans hK5; clear hW5 hK5 RZ5)
  all_goals
    have z45 := HK5.out.size
    go_wp2
    have q0 : (w5.cell? ⟨w.heap.size + 1, 0, none⟩).isSome = true := by rw [d0]; rfl
    have q1 : (w5.cell? ⟨w.heap.size + 1, 1, none⟩).isSome = true := by rw [d1]; rfl
    have q2 : (w5.cell? ⟨w.heap.size + 1, 2, none⟩).isSome = true := by rw [d2]; rfl
    have q3 : (w5.cell? ⟨w.heap.size + 1, 3, none⟩).isSome = true := by rw [d3]; rfl
    have q4 : (w5.cell? ⟨w.heap.size + 1, 4, none⟩).isSome = true := by rw [d4]; rfl
    have q5 : (w5.cell? ⟨w.heap.size + 1, 5, none⟩).isSome = true := by rw [d5]; rfl
    have q6 : (w5.cell? ⟨w.heap.size + 1, 6, none⟩).isSome = true := by rw [d6]; rfl
    have q7 : (w5.cell? ⟨w.heap.size + 1, 7, none⟩).isSome = true := by rw [d7]; rfl
    have q8 : (w5.cell? ⟨w.heap.size + 1, 8, none⟩).isSome = true := by rw [d8]; rfl
    have q9 : (w5.cell? ⟨w.heap.size + 1, 9, none⟩).isSome = true := by rw [d9]; rfl
    refine bodyPost_ret (v := .tuple #[.agg #[.slice (some ⟨bw, 0, none⟩) ws.length c1, .int .i64 semi, .int .i64 toh, .int .i64 top, .bool cyc, .int .i64 scan, .int .i64 old, .int .i64 copied, .int .i64 serial, .slice a2 rs.length c2], .bool true]) (by simp [results, Tryz.results22, go_sem, q0, q1, q2, q3, q4, q5, q6, q7, q8, q9]) rfl ⟨_, _, rfl, ?_, ?_⟩
    · rw [← HT2.out, ← HM2.out]
      refine ownAr_of (putW_len _ _ _ _) (Rw.of_block HW5.out (ten_block (by omega))) (ownR_block (ownR_kp HRR.out HK5.out (fun g => by have := hne g; simp; omega)) (fun _ => ten_block (by omega))) hne (by omega) (by simp; omega) (by omega) (by simp; omega)
    · exact below_ten (HB4.out.trans (HK5.out.below (fun x hx => by simp at hx; omega) (by omega))) (by omega)
end Go.Proofs.YtibjellhafndiaaGreatDoor

/- The law FnExactSetCell, walked. -/
namespace Go.Proofs.YtibjellhafndiaaGreatDoor
set_option maxRecDepth 20000
open Go.RowKit
set_option linter.unusedSimpArgs false
set_option linter.unusedVariables false

set_option maxHeartbeats 4000000 in
theorem fnExactSetCell_by (aw : Option Addr) (cw : Nat) (ws : List Int) (semi toh top : Int) (cyc : Bool) (scan old copied serial : Int) (ar : Option Addr) (cr : Nat) (rs : List (Int × Int)) (r f : Int) (y : Nat → Int) (Tr : Nat) (w : World) (semj tohj topj : Int) (cycj : Bool) (scanj oldj copiedj serialj : Int) (n m : Nat) (z yj : Nat → Int) (q : Bool) (hnn : ws.length ≤ 1048576 → rs.length ≤ 1048576 → n ≤ 1048576) (hmm : ws.length ≤ 1048576 → rs.length ≤ 1048576 → m ≤ 1048576) (hs : Sl w (.slice aw ws.length cw) ws) (hrt : SlF Tr w (.slice ar rs.length cr) rs.length (2 * rs.length) (fun i => .int .i64 (y i))) (hl1 : ws.length ≤ 9223372036854775807) (hl2 : rs.length ≤ 9223372036854775807)
    (hspec : ws.length ≤ 1048576 → rs.length ≤ 1048576 → ∀ (aw : Option Addr) (cw : Nat) (ar : Option Addr) (cr : Nat) (W : World) (T : Nat), Sl W (.slice aw ws.length cw) ws → SlF T W (.slice ar rs.length cr) rs.length (2 * rs.length) (fun i => .int .i64 (y i)) → Calls Tryz.prog 22 #[.agg #[.slice aw ws.length cw, .int .i64 semi, .int .i64 toh, .int .i64 top, .bool cyc, .int .i64 scan, .int .i64 old, .int .i64 copied, .int .i64 serial, .slice ar rs.length cr], .int .i64 r, .int .i64 f] W fun e w' => ∃ vw vr, e = .returned (.tuple #[.agg #[vw, .int .i64 semj, .int .i64 tohj, .int .i64 topj, .bool cycj, .int .i64 scanj, .int .i64 oldj, .int .i64 copiedj, .int .i64 serialj, vr], .bool q]) ∧ OwnAr W.heap.size w'.heap.size w' vw vr n m z yj ∧ Below W.heap.size W w')
    (himpl : ws.length ≤ 1048576 → rs.length ≤ 1048576 → ∀ (aw : Option Addr) (cw : Nat) (ar : Option Addr) (cr : Nat) (W : World) (T : Nat), Below w.heap.size w W → Sl W (.slice aw ws.length cw) ws → ws.length ≤ cw → SlF T W (.slice ar rs.length cr) rs.length (2 * rs.length) (fun i => .int .i64 (y i)) → Calls Tryz.prog 23 #[.agg #[.slice aw ws.length cw, .int .i64 semi, .int .i64 toh, .int .i64 top, .bool cyc, .int .i64 scan, .int .i64 old, .int .i64 copied, .int .i64 serial, .slice ar rs.length cr], .int .i64 r, .int .i64 f] W fun e w' => ∃ vw vr, e = .returned (.tuple #[.agg #[vw, .int .i64 semj, .int .i64 tohj, .int .i64 topj, .bool cycj, .int .i64 scanj, .int .i64 oldj, .int .i64 copiedj, .int .i64 serialj, vr], .bool q]) ∧ OwnAr W.heap.size w'.heap.size w' vw vr n m z yj ∧ Below W.heap.size W w') :
    Calls Tryz.prog 5 #[.agg #[.slice aw ws.length cw, .int .i64 semi, .int .i64 toh, .int .i64 top, .bool cyc, .int .i64 scan, .int .i64 old, .int .i64 copied, .int .i64 serial, .slice ar rs.length cr], .int .i64 r, .int .i64 f] w fun e w' => e = .returned (.bool true) ∧ Below w.heap.size w w' := by
  by_cases h : (ws.length : Int) + rs.length ≤ 1048576
  · have hn : ws.length ≤ 1048576 := by omega
    have hn2 : rs.length ≤ 1048576 := by omega
    have h0 : ¬ (1048576 - (ws.length : Int) - rs.length) < 0 := by omega
    have hnn := hnn hn hn2
    have hmm := hmm hn hn2
    have k0 : ¬ (1 + (n : Int) + 2 * m) < 0 := by omega
    have k0' : ¬ (1 + (ws.length : Int) + 2 * rs.length) < 0 := by omega
    have HSZ : ∀ W, _ := fun W => szArena_any aw ws.length cw semi toh top cyc scan old copied serial ar rs.length cr W hl1 hl2
    rw [if_pos h] at HSZ
    have HTA : Hid (∀ W, Below w.heap.size w W → _) := fun W (hW : Below w.heap.size w W) => toArena_own aw cw ws semi toh top cyc scan old copied serial ar cr rs y w.heap.size W (hs.below hW) hn (hrt.here.below hW (Nat.le_refl _)) hn2
    have HSP : Hid _ := hspec hn hn2
    have HIM : Hid _ := himpl hn hn2
    clear hs hrt h hl1 hl2 hspec himpl
    go_enter Tryz.func5, Tryz.ntmps5
    go_wp2_with fail
    refine (HSZ _).mono ?_
    rintro e w1 ⟨rfl, b1⟩
    have B1 := below_first b1
    have k1 := one_cells b1 (by simp)
    have z1 := size_first b1
    clear b1
    go_wp2_with fail
    refine (HTA.out _ B1).mono ?_
    rintro e w2 ⟨x1, x2, rfl, o2, b2⟩
    have B2 := below_next B1 b2
    have k2 := has_below k1 b2 z1
    have z2 := Nat.lt_of_lt_of_le z1 b2.size
    obtain ⟨s2, r2⟩ := ownAr_sl o2
    clear b2 k1 o2
    go_wp2_with fail
    refine (HSP.out (some ⟨x1, 0, none⟩) ws.length (some ⟨x2, 0, none⟩) rs.length _ _ s2 r2).mono ?_
    rintro e w3 ⟨vw, vr, rfl, o3, b3⟩
    obtain ⟨a1, c1, rfl⟩ := o3.sl.1.head
    obtain ⟨a2, c2, rfl⟩ := o3.sl.2.head
    have B3 := below_next B2 b3
    have k3 := has_below k2 b3 z2
    have z3 := Nat.lt_of_lt_of_le z2 b3.size
    clear b3 k2 s2 r2
    have B3' := below_box (o := .cells #[.slice a1 n c1, .int .i64 semj, .int .i64 tohj, .int .i64 topj, .bool cycj, .int .i64 scanj, .int .i64 oldj, .int .i64 copiedj, .int .i64 serialj, .slice a2 m c2] 29) B3
    go_wp2_with fail
    refine (HTA.out _ B3').mono ?_
    rintro e w4 ⟨x3, x4, rfl, o4, b4⟩
    simp only [World.size_alloc] at o4
    have B4 := below_next B3' b4
    have k4 := has_below (has_below k3 ((Below.refl w3.heap.size w3).alloc (Nat.le_refl _) _) z3) b4 (by simp; omega)
    have q4 := one_cells b4 (by simp)
    have z4 : w3.heap.size < w4.heap.size := size_first b4
    have S4 := o3.sl.1.below (below_first b4) (Nat.le_refl _)
    have R4 := o3.sl.2.below (below_first b4) (Nat.le_refl _)
    clear k3 b4 o3 B3'
    have A4 : Below w4.heap.size w4 (w4.alloc (.cells #[.slice (some ⟨x3, 0, none⟩) ws.length ws.length, .int .i64 semi, .int .i64 toh, .int .i64 top, .bool cyc, .int .i64 scan, .int .i64 old, .int .i64 copied, .int .i64 serial, .slice (some ⟨x4, 0, none⟩) rs.length rs.length] 29)) := (Below.refl _ _).alloc (Nat.le_refl _) _
    obtain ⟨s4, r4⟩ := ownAr_sl (o4.below A4 (Nat.le_refl _))
    go_wp2_with fail
    refine (HIM.out (some ⟨x3, 0, none⟩) ws.length (some ⟨x4, 0, none⟩) rs.length _ _ (below_box B4) s4 (Nat.le_refl _) r4).mono ?_
    rintro e w5 ⟨vw, vr, rfl, o5, b5⟩
    obtain ⟨a3, c3, rfl⟩ := o5.sl.1.head
    obtain ⟨a4, c4, rfl⟩ := o5.sl.2.head
    have b5f := below_first b5
    have B5 := below_next (below_box B4) b5
    have k5 := has_below k4 b5f (by omega)
    have q5 := has_below q4 b5f z4
    have p5 := one_cells b5 (by simp)
    have z5 : w4.heap.size < w5.heap.size := size_first b5
    have z35 : w3.heap.size < w5.heap.size := by omega
    have o4' := o4.below b5f (Nat.le_refl _)
    have S5 := S4.below b5f (by omega)
    have R5 := R4.below b5f (by omega)
    clear k4 q4 b5 b5f o4 S4 R4 A4 s4 r4
    have A5 : Below w5.heap.size w5 (w5.alloc (.cells #[.slice a3 n c3, .int .i64 semj, .int .i64 tohj, .int .i64 topj, .bool cycj, .int .i64 scanj, .int .i64 oldj, .int .i64 copiedj, .int .i64 serialj, .slice a4 m c4] 29)) := (Below.refl _ _).alloc (Nat.le_refl _) _
    simp only [World.size_alloc] at o5
    go_wp2_with fail
    refine (eqArena_same _ _ _ _ _ _ _ _ n m z yj _ _ _ _ _ _ _ _ _ (o5.sl.1.below A5 (Nat.le_refl _)) (S5.below A5 (by omega)) hnn (o5.sl.2.below A5 (Nat.le_refl _)) (R5.below A5 (by omega)) hmm).mono ?_
    rintro e w6 ⟨rfl, b6⟩
    have b6f := below_first b6
    have B6 := below_next B5 b6f
    have k6 := has_below k5 b6f (by omega)
    have q6 := has_below q5 b6f (by omega)
    have p6 := has_below p5 b6f (by omega)
    have g6 := one_cells b6 (by simp)
    have z6 : w5.heap.size < w6.heap.size := size_first b6
    have o6 := o5.below b6f (Nat.le_refl _)
    have ox := o4'.below b6f (by omega)
    have S6 := S5.below b6f (by omega)
    have R6 := R5.below b6f (by omega)
    clear k5 q5 p5 b6 b6f o5 o4' S5 R5 A5
    go_wp2_with fail
    have KP : ∀ V, Below w6.heap.size w6 V → (Below w6.heap.size w6 V ∧ (∀ i, V.cell? ⟨w.heap.size, i, none⟩ = (#[.slice aw ws.length cw, .int .i64 semi, .int .i64 toh, .int .i64 top, .bool cyc, .int .i64 scan, .int .i64 old, .int .i64 copied, .int .i64 serial, .slice ar rs.length cr] : Array Value)[i]?) ∧ (∀ i, V.cell? ⟨w4.heap.size, i, none⟩ = (#[.slice (some ⟨x3, 0, none⟩) ws.length ws.length, .int .i64 semi, .int .i64 toh, .int .i64 top, .bool cyc, .int .i64 scan, .int .i64 old, .int .i64 copied, .int .i64 serial, .slice (some ⟨x4, 0, none⟩) rs.length rs.length] : Array Value)[i]?)) := fun V hV => ⟨hV, has_below k6 hV (by omega), has_below p6 hV (by omega)⟩
    have b6' := (Below.refl w6.heap.size w6).drew
    have HK : Hid (∀ V, Below w6.heap.size w6 V → (∀ i, V.cell? ⟨w.heap.size, i, none⟩ = (#[.slice aw ws.length cw, .int .i64 semi, .int .i64 toh, .int .i64 top, .bool cyc, .int .i64 scan, .int .i64 old, .int .i64 copied, .int .i64 serial, .slice ar rs.length cr] : Array Value)[i]?) ∧ (∀ i, V.cell? ⟨w3.heap.size, i, none⟩ = (#[.slice a1 n c1, .int .i64 semj, .int .i64 tohj, .int .i64 topj, .bool cycj, .int .i64 scanj, .int .i64 oldj, .int .i64 copiedj, .int .i64 serialj, .slice a2 m c2] : Array Value)[i]?) ∧ (∀ i, V.cell? ⟨w4.heap.size, i, none⟩ = (#[.slice (some ⟨x3, 0, none⟩) ws.length ws.length, .int .i64 semi, .int .i64 toh, .int .i64 top, .bool cyc, .int .i64 scan, .int .i64 old, .int .i64 copied, .int .i64 serial, .slice (some ⟨x4, 0, none⟩) rs.length rs.length] : Array Value)[i]?) ∧ (∀ i, V.cell? ⟨w5.heap.size, i, none⟩ = (#[.slice a3 n c3, .int .i64 semj, .int .i64 tohj, .int .i64 topj, .bool cycj, .int .i64 scanj, .int .i64 oldj, .int .i64 copiedj, .int .i64 serialj, .slice a4 m c4] : Array Value)[i]?)) := fun V hV => ⟨has_below k6 hV (by omega), has_below q6 hV (by omega), has_below p6 hV (by omega), has_below g6 hV (by omega)⟩
    have F6 := ox.sl.1
    have R6' := ox.sl.2
    have HS6 : Hid (SlF w3.heap.size w6 (.slice a1 n c1) n n (fun i => .int .u64 (z i))) := S6
    have HR6 : Hid (SlF w3.heap.size w6 (.slice a2 m c2) m (2 * m) (fun i => .int .i64 (yj i))) := R6
    have Ho6 : Hid (OwnAr (w4.heap.size + 1) w5.heap.size w6 (.slice a3 n c3) (.slice a4 m c4) n m z yj) := o6
    have Hox : Hid (OwnAr (w3.heap.size + 1) w4.heap.size w6 (.slice (some ⟨x3, 0, none⟩) ws.length ws.length) (.slice (some ⟨x4, 0, none⟩) rs.length rs.length) ws.length rs.length (wordAt ws) y) := ox
    clear k6 q6 p6 g6 HSZ HSP S6 R6 o6 ox
    go_region_held3 (fun V => Below w6.heap.size w6 V ∧ (∀ i, V.cell? ⟨w.heap.size, i, none⟩ = (#[.slice aw ws.length cw, .int .i64 semi, .int .i64 toh, .int .i64 top, .bool cyc, .int .i64 scan, .int .i64 old, .int .i64 copied, .int .i64 serial, .slice ar rs.length cr] : Array Value)[i]?) ∧ (∀ i, V.cell? ⟨w4.heap.size, i, none⟩ = (#[.slice (some ⟨x3, 0, none⟩) ws.length ws.length, .int .i64 semi, .int .i64 toh, .int .i64 top, .bool cyc, .int .i64 scan, .int .i64 old, .int .i64 copied, .int .i64 serial, .slice (some ⟨x4, 0, none⟩) rs.length rs.length] : Array Value)[i]?)) (first | assumption | exact KP _ b6' | exact KP _ (by assumption)) (first | (go_at_call 15; refine (HTA.out _ (below_next B6 (And.left (by assumption)))).mono ?_; rintro e w7 ⟨x5, x6, rfl, o7, bb⟩; have hB7 := below_next (w := w6) (And.left (by assumption)) bb; clear bb) | (go_at_call 17; refine (eqArena_same _ _ _ _ _ _ _ _ ws.length rs.length (wordAt ws) y _ _ _ _ _ _ _ _ _ (F6.below hB7 (by omega)) o7.sl.1 hn (R6'.below hB7 (by omega)) o7.sl.2 hn2).mono ?_; rintro e w8 ⟨rfl, bb⟩; have hB8 := below_next (w := w6) hB7 bb; clear bb))
    all_goals
      have B8 := below_next B6 hB8
      obtain ⟨k8, q8, p8, g8⟩ := HK.out _ hB8
      have z8 := hB8.size
      have o8 := Ho6.out.below hB8 (by omega)
      have ox8 := Hox.out.below hB8 (by omega)
      have S8 := HS6.out.below hB8 (by omega)
      have R8 := HR6.out.below hB8 (by omega)
      clear HK KP hB7 hB8 o7 F6 R6' HS6 HR6 Ho6 Hox b6'
      obtain ⟨y1, t1, y2, t2, g1, g2, g3, g4, g5, gg6, g7⟩ := ox8
      go_wp2_with fail
      refine (markArena_any y1 t1 y2 t2 (w3.heap.size + 1) w4.heap.size _ _ ws.length rs.length (wordAt ws) y _ _ _ _ _ _ _ _ _ gg6 hn g7 hn2 g5 (by omega) g2 (by omega) g4 (by omega)).mono ?_
      rintro e w9 ⟨rfl, _, _, A9⟩
      have k9 := has_apart k8 A9 (by omega) (by omega)
      have q9 := has_apart q8 A9 (by omega) (by omega)
      have g9 := has_apart g8 A9 (by omega) (by omega)
      have S9 := S8.apart A9 (by omega)
      have R9 := R8.apart A9 (by omega)
      have zb := B3.size
      have B9 := B8.trans (A9.below (by omega) (by omega))
      have z9 := A9.size
      have o9 := ownAr_apart o8 A9 (by omega)
      clear k8 q8 p8 g8 S8 R8 A9 gg6 g7 o8
      go_wp2_with fail
      refine (eqArena_same _ _ _ _ _ _ _ _ n m z yj _ _ _ _ _ _ _ _ _ o9.sl.1 S9 hnn o9.sl.2 R9 hmm).mono ?_
      rintro e w10 ⟨rfl, b10⟩
      have B10 := below_next B9 b10
      have z10 := b10.size
      have k10 := has_below k9 b10 (by omega)
      have q10 := has_below q9 b10 (by omega)
      have g10 := has_below g9 b10 (by omega)
      have S10 := S9.below b10 (by omega)
      have R10 := R9.below b10 (by omega)
      have o10 := o9.below b10 (by omega)
      clear k9 q9 g9 S9 R9 o9 b10
      obtain ⟨u1, v1, u2, v2, i1, i2, i3, i4, i5, i6, i7⟩ := o10
      go_wp2_with fail
      refine (markArena_any u1 v1 u2 v2 (w4.heap.size + 1) w5.heap.size _ _ n m z yj _ _ _ _ _ _ _ _ _ i6 hnn i7 hmm i5 (by omega) i2 (by omega) i4 (by omega)).mono ?_
      rintro e w11 ⟨rfl, h11, r11, A11⟩
      have k11 := has_apart k10 A11 (by omega) (by omega)
      have q11 := has_apart q10 A11 (by omega) (by omega)
      have g11 := has_apart g10 A11 (by omega) (by omega)
      have S11 := S10.apart A11 (by omega)
      have R11 := R10.apart A11 (by omega)
      have B11 := B10.trans (A11.below (by omega) (by omega))
      have z11 := A11.size
      clear k10 q10 g10 S10 R10 A11 i6 i7
      go_wp2_with fail
      refine (heldArena_any _ _ _ _ n m _ _ _ _ _ _ _ _ _ h11.sl hnn r11.sl hmm).mono ?_
      rintro e w12 ⟨rfl, b12⟩
      have z12 := b12.size
      have k12 := has_below k11 b12 (by omega)
      have q12 := has_below q11 b12 (by omega)
      have g12 := has_below g11 b12 (by omega)
      have h12 := h11.below b12 (by omega)
      have r12 := r11.below b12 (by omega)
      have S12 := S11.below b12 (by omega)
      have R12 := R11.below b12 (by omega)
      have B12 := below_next B11 b12
      clear k11 q11 g11 h11 r11 S11 R11 b12
      go_wp2_with fail
      refine (HTA.out _ B12).mono ?_
      rintro e w13 ⟨x7, x8, rfl, o13, b13⟩
      have z13 := b13.size
      have q13 := has_below q12 b13 (by omega)
      have g13 := has_below g12 b13 (by omega)
      have h13 := h12.below b13 (by omega)
      have r13 := r12.below b13 (by omega)
      have S13 := S12.below b13 (by omega)
      have R13 := R12.below b13 (by omega)
      have B13 := below_next B12 b13
      obtain ⟨s13, l13⟩ := ownAr_sl o13
      clear k12 q12 g12 h12 r12 S12 R12 b13 o13
      go_wp2_with fail
      refine (HIM.out (some ⟨x7, 0, none⟩) ws.length (some ⟨x8, 0, none⟩) rs.length _ _ B13 s13 (Nat.le_refl _) l13).mono ?_
      rintro e w14 ⟨vw, vr, rfl, o14, b14⟩
      obtain ⟨a5, c5, rfl⟩ := o14.sl.1.head
      obtain ⟨a6, c6, rfl⟩ := o14.sl.2.head
      have z14 := b14.size
      have q14 := has_below q13 b14 (by omega)
      have g14 := has_below g13 b14 (by omega)
      have h14 := h13.below b14 (by omega)
      have r14 := r13.below b14 (by omega)
      have S14 := S13.below b14 (by omega)
      have R14 := R13.below b14 (by omega)
      have B14 := below_next B13 b14
      clear q13 g13 h13 r13 S13 R13 b14 s13 l13
      have A14 : Below w14.heap.size w14 (w14.alloc (.cells #[.slice a5 n c5, .int .i64 semj, .int .i64 tohj, .int .i64 topj, .bool cycj, .int .i64 scanj, .int .i64 oldj, .int .i64 copiedj, .int .i64 serialj, .slice a6 m c6] 29)) := (Below.refl _ _).alloc (Nat.le_refl _) _
      have l5 : w3.heap.size < w14.heap.size := by omega
      have l7 : w5.heap.size < w14.heap.size := by omega
      go_wp2_with fail
      refine (eqArena_same _ _ _ _ _ _ _ _ n m z yj _ _ _ _ _ _ _ _ _ (o14.sl.1.below A14 (Nat.le_refl _)) (S14.below A14 (by omega)) hnn (o14.sl.2.below A14 (Nat.le_refl _)) (R14.below A14 (by omega)) hmm).mono ?_
      rintro e w15 ⟨rfl, b15⟩
      have z15 := size_first b15
      have g15 := has_below g14 (below_first b15) (by omega)
      have h15 := h14.below (below_first b15) (by omega)
      have r15 := r14.below (below_first b15) (by omega)
      have B15 := below_next B14 (below_first b15)
      clear q14 g14 h14 r14 S14 R14 A14 b15 o14
      go_wp2_with fail
      refine (heldArena_any _ _ _ _ n m _ _ _ _ _ _ _ _ _ h15.sl hnn r15.sl hmm).mono ?_
      rintro e w16 ⟨rfl, b16⟩
      have B16 := below_next B15 b16
      go_wp2
      go_ret
      exact ⟨rfl, B16⟩
  · have HSZ : ∀ W, _ := fun W => szArena_any aw ws.length cw semi toh top cyc scan old copied serial ar rs.length cr W hl1 hl2
    rw [if_neg h] at HSZ
    clear hs hrt h hspec himpl
    go_enter Tryz.func5, Tryz.ntmps5
    go_wp2_with (go_at_call 13; refine (HSZ _).mono ?_; rintro e w1 ⟨rfl, b1⟩)
    go_ret
    exact ⟨rfl, below_first b1⟩

end Go.Proofs.YtibjellhafndiaaGreatDoor
