/- - -/
import Derived.Test.YtdnhohndppmgcaaGreatDoorLScI
namespace Go.Proofs.YtdnhohndppmgcaaGreatDoor
set_option maxRecDepth 20000
open Go.RowKit
set_option linter.unusedSimpArgs false
set_option linter.unusedVariables false
theorem zt8 {ws : List Int} {x : Nat} (hw : zg ws) (hx : x + 1 < ws.length) (h : za2 ws x = true) : zdf ws x (rvT ws x) (rvN ws x) = ws := by
 have wd : ∀ i, i < ws.length -> 0 <= za ws i /\ za ws i < 18446744073709551616 := fun i hi => by
  unfold za
  rw [List.getD_eq_getElem?_getD, List.getElem?_eq_getElem hi]
  exact hw _ (List.getElem_mem hi)
 have e1 : IntKind.u64.wrap (rvT ws x) = za ws x := by
  have := wd x (by omega)
  rw [zg4 h]
  exact zp4 this.1 this.2
 have e2 : IntKind.u64.wrap (rvN ws x) = za ws (x + 1) := by
  have := wd (x + 1) hx
  rw [rvN, if_pos h]
  exact zn6 this.1 this.2
 unfold zdf
 rw [e1, e2, zjk (by omega) rfl, zjk hx rfl]
set_option maxHeartbeats 2000000 in
theorem zli (ba bw cw : Nat) (ws : List Int) (sm toh : Int) (T : Nat) (cyc : Bool) (sn old : Int) (C : Nat) (sr : Int) (ar : Option Addr) (cr : Nat) (rs : List (Int × Int)) (a t m : Int) (x : Nat) (w : World) (a2 : Cp) (m2 : Int) (hA : w.rowIs ba 29 10 (fun i => (#[.slice (some ⟨bw, 0, none⟩) ws.length cw, .int .i64 sm, .int .i64 toh, .int .i64 (T : Int), .bool cyc, .int .i64 sn, .int .i64 old, .int .i64 (C : Int), .int .i64 sr, .slice ar rs.length cr] : Array Value).getD i (.bool false))) (hW : RwW w bw ws) (hab : ba ≠ bw) (hlen : a2.ws.length = ws.length)
 (HFW : Hid (∀ W, W.rowIs ba 29 10 (fun i => (#[.slice (some ⟨bw, 0, none⟩) ws.length cw, .int .i64 sm, .int .i64 toh, .int .i64 (T : Int), .bool cyc, .int .i64 sn, .int .i64 old, .int .i64 (C : Int), .int .i64 sr, .slice ar rs.length cr] : Array Value).getD i (.bool false)) -> RwW W bw ws -> Calls Tryz.prog 171 #[.pointer (some ⟨ba, 0, none⟩), .agg #[.int .i64 t, .int .i64 m]] W fun e w' => e = .returned (.agg #[.int .i64 t, .int .i64 m2]) /\ w'.rowIs ba 29 10 (fun i => (#[.slice (some ⟨bw, 0, none⟩) ws.length cw, .int .i64 sm, .int .i64 toh, .int .i64 (a2.T : Int), .bool cyc, .int .i64 sn, .int .i64 old, .int .i64 (a2.C : Int), .int .i64 sr, .slice ar rs.length cr] : Array Value).getD i (.bool false)) /\ RwW w' bw a2.ws /\ Kp [ba, bw] W w'))
 (HSA : Hid (∀ W, RwW W bw ws -> Calls Tryz.prog 172 #[.agg #[.slice (some ⟨bw, 0, none⟩) ws.length cw, .int .i64 sm, .int .i64 toh, .int .i64 (T : Int), .bool cyc, .int .i64 sn, .int .i64 old, .int .i64 (C : Int), .int .i64 sr, .slice ar rs.length cr], .int .i64 a] W fun e w' => e = .returned (.agg #[.int .i64 t, .int .i64 m]) /\ Below W.heap.size W w'))
 (HLV : Hid (∀ W, RwW W bw a2.ws -> Calls Tryz.prog 136 #[.slice (some ⟨bw, 0, none⟩) ws.length cw, .int .i64 a, .agg #[.int .i64 t, .int .i64 m2]] W fun e w' => e = .returned (.tuple #[]) /\ RwW w' bw (zdf a2.ws x t m2) /\ Kp [bw] W w')) :
 Calls Tryz.prog 134 #[.pointer (some ⟨ba, 0, none⟩), .int .i64 a] w fun e w' =>
  e = .returned (.agg #[.int .i64 t, .int .i64 m2]) /\ w'.rowIs ba 29 10 (fun i => (#[.slice (some ⟨bw, 0, none⟩) ws.length cw, .int .i64 sm, .int .i64 toh, .int .i64 (a2.T : Int), .bool cyc, .int .i64 sn, .int .i64 old, .int .i64 (a2.C : Int), .int .i64 sr, .slice ar rs.length cr] : Array Value).getD i (.bool false)) /\ RwW w' bw (zdf a2.ws x t m2) /\ Kp [ba, bw] w w' := by
 have HA : Hid (w.rowIs ba 29 10 (fun i => (#[.slice (some ⟨bw, 0, none⟩) ws.length cw, .int .i64 sm, .int .i64 toh, .int .i64 (T : Int), .bool cyc, .int .i64 sn, .int .i64 old, .int .i64 (C : Int), .int .i64 sr, .slice ar rs.length cr] : Array Value).getD i (.bool false))) := hA
 have HW : Hid (RwW w bw ws) := hW
 have lba := hA.lt
 have lbw := hW.lt
 have KA := zx hA rfl
 clear hA hW hlen
 have B0 : Below w.heap.size w (w.alloc (.cells #[.int .i64 0, .int .i64 0] 57)) := (Below.refl _ _).alloc (Nat.le_refl _) _
 go_enter Tryz.func134, Tryz.ntmps134
 go_wp2_with fail
 refine (HSA.out _ (Rw.below HW.out B0)).mono ?_
 rintro e w1 ⟨rfl, b1⟩
 have B1 : Below w.heap.size w w1 := zc B0 b1
 have z1 : w.heap.size < w1.heap.size := by have := b1.size; simp at this; omega
 have Z1 : w1.rowIs w.heap.size 57 2 (fun i => (#[.int .i64 0, .int .i64 0] : Array Value).getD i (.bool false)) := zic b1 (by simp) rfl
 have HZ1 : Hid (w1.rowIs w.heap.size 57 2 (fun i => (#[.int .i64 0, .int .i64 0] : Array Value).getD i (.bool false))) := Z1
 clear b1 Z1 KA
 go_wp2_with fail
 refine (HFW.out _ (World.rowIs.of_block HA.out (B1.block _ lba)) (Rw.of_block HW.out (B1.block _ lbw))).mono ?_
 rintro e w2 ⟨rfl, hA2, hW2, hK2⟩
 have z2 : w.heap.size < w2.heap.size := Nat.lt_of_lt_of_le z1 hK2.size
 have HZ2 : Hid (w2.rowIs w.heap.size 57 2 (fun i => (#[.int .i64 0, .int .i64 0] : Array Value).getD i (.bool false))) := World.rowIs.of_block HZ1.out (hK2.block _ z1 (by simp; omega))
 have HK2 : Hid (Kp [ba, bw] w w2) := (Kp.of_below B1).trans hK2
 have lba2 : ba < w2.heap.size := hA2.lt
 have lbw2 : bw < w2.heap.size := hW2.lt
 have KA2 := zx hA2 rfl
 have HA2 : Hid (w2.rowIs ba 29 10 _) := hA2
 have HW2 : Hid (RwW w2 bw a2.ws) := hW2
 clear hA2 hW2 hK2 B1 HZ1 HFW HSA
 go_upto_region 2 with fail
 obtain ⟨w3, hw3⟩ : ∃ V, V = w2.alloc (.cells #[.int .i64 t, .int .i64 m2] 57) := ⟨_, rfl⟩
 have B3 : Below w2.heap.size w2 w3 := by rw [hw3]; exact (Below.refl _ _).alloc (Nat.le_refl _) _
 have v3 : ∀ i, w3.cell? ⟨w2.heap.size, i, none⟩ = (#[.int .i64 t, .int .i64 m2] : Array Value)[i]? := fun i => by rw [hw3]; simp [go_sem]
 have z3 : w2.heap.size < w3.heap.size := by rw [hw3]; simp
 rw [<- hw3]
 have a3 : w3.cell? ⟨ba, 0, none⟩ = some (.slice (some ⟨bw, 0, none⟩) ws.length cw) := by rw [B3.cell (p := ⟨ba, 0, none⟩) lba2]; exact KA2 0
 have KP : ∀ V, Kp [bw] w3 V -> (Kp [bw] w3 V /\ V.cell? ⟨ba, 0, none⟩ = some (.slice (some ⟨bw, 0, none⟩) ws.length cw) /\ V.cell? ⟨w2.heap.size, 0, none⟩ = some (.int .i64 t) /\ V.cell? ⟨w2.heap.size, 1, none⟩ = some (.int .i64 m2)) := fun V hV => ⟨hV, by rw [hV.cell (p := ⟨ba, 0, none⟩) (show ba < w3.heap.size by omega) (by simp [hab])]; exact a3, by rw [hV.cell (p := ⟨w2.heap.size, 0, none⟩) z3 (by simp; omega)]; exact v3 0, by rw [hV.cell (p := ⟨w2.heap.size, 1, none⟩) z3 (by simp; omega)]; exact v3 1⟩
 have k3' : Kp [bw] w3 w3.drew := (Kp.refl _ _).drew
 have HL3 : Hid (Calls Tryz.prog 136 #[.slice (some ⟨bw, 0, none⟩) ws.length cw, .int .i64 a, .agg #[.int .i64 t, .int .i64 m2]] w3.drew fun e w' => e = .returned (.tuple #[]) /\ RwW w' bw (zdf a2.ws x t m2) /\ Kp [bw] w3 w') := (HLV.out w3.drew (Rw.drew (Rw.below HW2.out B3))).mono (fun e w' ⟨h1, h2, h3⟩ => ⟨h1, h2, k3'.trans h3⟩)
 clear hw3 v3 a3 KA2 HLV
 go_region_held3 (fun V => Kp [bw] w3 V /\ V.cell? ⟨ba, 0, none⟩ = some (.slice (some ⟨bw, 0, none⟩) ws.length cw) /\ V.cell? ⟨w2.heap.size, 0, none⟩ = some (.int .i64 t) /\ V.cell? ⟨w2.heap.size, 1, none⟩ = some (.int .i64 m2)) (first | assumption | exact KP _ k3' | exact KP _ (by assumption)) (first | (go_at_call 136; refine (HL3.out).mono ?_; rintro e w4 ⟨rfl, hW4, hK4⟩))
 all_goals
  obtain ⟨_, _, u0, u1⟩ := KP _ hK4
  have z4 : w2.heap.size < w4.heap.size := Nat.lt_of_lt_of_le z3 hK4.size
  have RZ4 := World.rowIs.of_block HZ2.out ((hK4.block _ (show w.heap.size < w3.heap.size by omega) (by simp; omega)).trans (B3.block _ z2))
  have d0 := RZ4.cell (i := 0) (by omega)
  have d1 := RZ4.cell (i := 1) (by omega)
  have ef := World.rowIs.frozen RZ4
  have HW4 : Hid (RwW w4 bw (zdf a2.ws x t m2)) := hW4
  have HA4 : Hid _ := World.rowIs.of_block HA2.out ((hK4.block _ (show ba < w3.heap.size by omega) (by simp [hab])).trans (B3.block _ lba2))
  have HK4 : Hid (Kp [ba, bw] w w4) := (HK2.out.next B3).trans (hK4.mono (fun x hx => by simp at hx; simp [hx]))
  simp at d0 d1
  clear hW4 hK4 RZ4
  go_wp2
  have q0 : (w4.cell? ⟨w.heap.size, 0, none⟩).isSome = true := by rw [d0]; rfl
  have q1 : (w4.cell? ⟨w.heap.size, 1, none⟩).isSome = true := by rw [d1]; rfl
  refine bodyPost_ret (v := .agg #[.int .i64 t, .int .i64 m2]) (by simp [results, Tryz.results134, go_sem, q0, q1]) rfl ⟨rfl, ?_, ?_, ?_⟩
  · exact World.rowIs.of_block HA4.out ((Below.heap_setCell _ _ _ _ (by simp; omega)).trans (Below.heap_setCell _ _ _ _ (by simp; omega)))
  · exact Rw.of_block HW4.out ((Below.heap_setCell _ _ _ _ (by simp; omega)).trans (Below.heap_setCell _ _ _ _ (by simp; omega)))
  · exact (HK4.out.setCell (p := ⟨w.heap.size, 0, none⟩) (.inr (Nat.le_refl _)) _).setCell (p := ⟨w.heap.size, 1, none⟩) (.inr (Nat.le_refl _)) _
set_option maxHeartbeats 2000000 in
theorem zt9 (ba bw cw : Nat) (ws : List Int) (sm toh : Int) (T : Nat) (cyc : Bool) (sn old : Int) (C : Nat) (sr : Int) (ar : Option Addr) (cr : Nat) (rs : List (Int × Int)) (a t m : Int) (x : Nat) (w : World) {S E F Od sc J : Nat} {L O : List Nat} (hA : w.rowIs ba 29 10 (fun i => (#[.slice (some ⟨bw, 0, none⟩) ws.length cw, .int .i64 sm, .int .i64 toh, .int .i64 (T : Int), .bool cyc, .int .i64 sn, .int .i64 old, .int .i64 (C : Int), .int .i64 sr, .slice ar rs.length cr] : Array Value).getD i (.bool false))) (hW : RwW w bw ws) (hab : ba ≠ bw) (hcw : ws.length <= cw) (hC : Cyc ⟨ws, T, C⟩ S E F Od sc J L O) (hH : ze6 sm toh S E F Od) (hm : isR t = true -> 0 <= m /\ (m.toNat ∈ L \/ m.toNat ∈ O)) (hCb : C <= 1048576) (ha : a = x) (hx : x + 1 < ws.length) (ht : rvT ws x = t) (hmx : rvN ws x = m) :
 Calls Tryz.prog 134 #[.pointer (some ⟨ba, 0, none⟩), .int .i64 a] w fun e w' =>
  e = .returned (.agg #[.int .i64 t, .int .i64 (zax S ⟨ws, T, C⟩ t m)]) /\ w'.rowIs ba 29 10 (fun i => (#[.slice (some ⟨bw, 0, none⟩) ws.length cw, .int .i64 sm, .int .i64 toh, .int .i64 ((zag S ⟨ws, T, C⟩ t m).T : Int), .bool cyc, .int .i64 sn, .int .i64 old, .int .i64 ((zag S ⟨ws, T, C⟩ t m).C : Int), .int .i64 sr, .slice ar rs.length cr] : Array Value).getD i (.bool false)) /\ RwW w' bw (zdf (zag S ⟨ws, T, C⟩ t m).ws x t (zax S ⟨ws, T, C⟩ t m)) /\ Kp [ba, bw] w w' := by
 have hsm := hC.small
 have hw64 := hC.w64
 dsimp only at hsm hw64
 have hlen : (zag S ⟨ws, T, C⟩ t m).ws.length = ws.length := (hC.fwd_same hm).1
 have HFW : Hid (∀ W, W.rowIs ba 29 10 (fun i => (#[.slice (some ⟨bw, 0, none⟩) ws.length cw, .int .i64 sm, .int .i64 toh, .int .i64 (T : Int), .bool cyc, .int .i64 sn, .int .i64 old, .int .i64 (C : Int), .int .i64 sr, .slice ar rs.length cr] : Array Value).getD i (.bool false)) -> RwW W bw ws -> Calls Tryz.prog 171 #[.pointer (some ⟨ba, 0, none⟩), .agg #[.int .i64 t, .int .i64 m]] W fun e w' => e = .returned (.agg #[.int .i64 t, .int .i64 (zax S ⟨ws, T, C⟩ t m)]) /\ w'.rowIs ba 29 10 (fun i => (#[.slice (some ⟨bw, 0, none⟩) ws.length cw, .int .i64 sm, .int .i64 toh, .int .i64 ((zag S ⟨ws, T, C⟩ t m).T : Int), .bool cyc, .int .i64 sn, .int .i64 old, .int .i64 ((zag S ⟨ws, T, C⟩ t m).C : Int), .int .i64 sr, .slice ar rs.length cr] : Array Value).getD i (.bool false)) /\ RwW w' bw (zag S ⟨ws, T, C⟩ t m).ws /\ Kp [ba, bw] W w') := fun W hA hW => zr3 ba bw cw ws sm toh T cyc sn old C sr ar cr rs t m W hA hW hab hcw hC hH hm hCb
 have HSA : Hid (∀ W, RwW W bw ws -> Calls Tryz.prog 172 #[.agg #[.slice (some ⟨bw, 0, none⟩) ws.length cw, .int .i64 sm, .int .i64 toh, .int .i64 (T : Int), .bool cyc, .int .i64 sn, .int .i64 old, .int .i64 (C : Int), .int .i64 sr, .slice ar rs.length cr], .int .i64 a] W fun e w' => e = .returned (.agg #[.int .i64 t, .int .i64 m]) /\ Below W.heap.size W w') := fun W hW => by
  rw [<- ht, <- hmx]
  exact zfn (some ⟨bw, 0, none⟩) cw ws sm toh (T : Int) cyc sn old (C : Int) sr ar cr rs a x W ha (RwW.sl hW cw) (by omega) hw64 hx
 exact zli ba bw cw ws sm toh T cyc sn old C sr ar cr rs a t m x w (zag S ⟨ws, T, C⟩ t m) (zax S ⟨ws, T, C⟩ t m) hA hW hab hlen HFW HSA (fun W hW => by
  rw [<- hlen]
  exact zkl bw cw x (zag S ⟨ws, T, C⟩ t m).ws a t (zax S ⟨ws, T, C⟩ t m) W ha hW (by omega) (by omega))
set_option maxHeartbeats 2000000 in
theorem zn9 (ba bw cw : Nat) (ws : List Int) (sm toh : Int) (T : Nat) (cyc : Bool) (sn old : Int) (C : Nat) (sr : Int) (ar : Option Addr) (cr : Nat) (rs : List (Int × Int)) (a t m : Int) (x : Nat) (w : World) (hA : w.rowIs ba 29 10 (fun i => (#[.slice (some ⟨bw, 0, none⟩) ws.length cw, .int .i64 sm, .int .i64 toh, .int .i64 (T : Int), .bool cyc, .int .i64 sn, .int .i64 old, .int .i64 (C : Int), .int .i64 sr, .slice ar rs.length cr] : Array Value).getD i (.bool false))) (hW : RwW w bw ws) (hab : ba ≠ bw) (hw64 : zg ws) (hsm : ws.length <= 1048576) (S : Int) (h1 : 0 <= toh) (h2 : toh <= 1) (h3 : 256 <= sm) (h4 : sm <= 4000) (hS : toh * sm + 1 = S) (hm : isR t = true -> S <= m /\ m < (T : Int)) (ha : a = x) (hx : x + 1 < ws.length) (ht : rvT ws x = t) (hmx : rvN ws x = m) :
 Calls Tryz.prog 134 #[.pointer (some ⟨ba, 0, none⟩), .int .i64 a] w fun e w' =>
  e = .returned (.agg #[.int .i64 t, .int .i64 m]) /\ w'.rowIs ba 29 10 (fun i => (#[.slice (some ⟨bw, 0, none⟩) ws.length cw, .int .i64 sm, .int .i64 toh, .int .i64 (T : Int), .bool cyc, .int .i64 sn, .int .i64 old, .int .i64 (C : Int), .int .i64 sr, .slice ar rs.length cr] : Array Value).getD i (.bool false)) /\ RwW w' bw (zdf ws x t m) /\ Kp [ba, bw] w w' := by
 have HSA : Hid (∀ W, RwW W bw ws -> Calls Tryz.prog 172 #[.agg #[.slice (some ⟨bw, 0, none⟩) ws.length cw, .int .i64 sm, .int .i64 toh, .int .i64 (T : Int), .bool cyc, .int .i64 sn, .int .i64 old, .int .i64 (C : Int), .int .i64 sr, .slice ar rs.length cr], .int .i64 a] W fun e w' => e = .returned (.agg #[.int .i64 t, .int .i64 m]) /\ Below W.heap.size W w') := fun W hW => by
  rw [<- ht, <- hmx]
  exact zfn (some ⟨bw, 0, none⟩) cw ws sm toh (T : Int) cyc sn old (C : Int) sr ar cr rs a x W ha (RwW.sl hW cw) (by omega) hw64 hx
 have HFW : Hid (∀ W, W.rowIs ba 29 10 (fun i => (#[.slice (some ⟨bw, 0, none⟩) ws.length cw, .int .i64 sm, .int .i64 toh, .int .i64 (T : Int), .bool cyc, .int .i64 sn, .int .i64 old, .int .i64 (C : Int), .int .i64 sr, .slice ar rs.length cr] : Array Value).getD i (.bool false)) -> RwW W bw ws -> Calls Tryz.prog 171 #[.pointer (some ⟨ba, 0, none⟩), .agg #[.int .i64 t, .int .i64 m]] W fun e w' => e = .returned (.agg #[.int .i64 t, .int .i64 m]) /\ w'.rowIs ba 29 10 (fun i => (#[.slice (some ⟨bw, 0, none⟩) ws.length cw, .int .i64 sm, .int .i64 toh, .int .i64 (T : Int), .bool cyc, .int .i64 sn, .int .i64 old, .int .i64 (C : Int), .int .i64 sr, .slice ar rs.length cr] : Array Value).getD i (.bool false)) /\ RwW w' bw ws /\ Kp [ba, bw] W w') := fun W hA hW => by
  cases hr : isR t with
  | false =>
    refine (zkg ba bw cw ws sm toh T cyc sn old C sr ar cr rs t m W hA hW hab hr).mono ?_
    rintro e w' ⟨rfl, hb⟩
    exact ⟨rfl, hA.of_block (hb.block _ hA.lt), Rw.below hW hb, Kp.of_below hb⟩
  | true =>
    refine (zkh ba bw cw ws sm toh T cyc sn old C sr ar cr rs t m W hA hW hab S hr h1 h2 h3 h4 hS (decide_eq_true (hm hr))).mono ?_
    rintro e w' ⟨rfl, hb⟩
    exact ⟨rfl, hA.of_block (hb.block _ hA.lt), Rw.below hW hb, Kp.of_below hb⟩
 exact zli ba bw cw ws sm toh T cyc sn old C sr ar cr rs a t m x w ⟨ws, T, C⟩ m hA hW hab rfl HFW HSA (fun W hW => zkl bw cw x ws a t m W ha hW (by omega) (by omega))
set_option maxHeartbeats 2000000 in
theorem zsb (bw cw : Nat) (ws : List Int) (sm toh : Int) (T : Nat) (sn old : Int) (C : Nat) (sr : Int) (ar : Option Addr) (cr : Nat) (rs : List (Int × Int)) (a t m : Int) (x : Nat) (w : World) {S E F Od sc J : Nat} {L O : List Nat} (hW : RwW w bw ws) (hC : Cyc ⟨ws, T, C⟩ S E F Od sc J L O) (hH : ze6 sm toh S E F Od) (hm : isR t = true -> 0 <= m /\ (m.toNat ∈ L \/ m.toNat ∈ O)) (hCb : C <= 1048576) (ha : a = x) (hx : x + 1 < ws.length) (ht : rvT ws x = t) (hmx : rvN ws x = m) :
 Calls Tryz.prog 44 #[.agg #[.slice (some ⟨bw, 0, none⟩) ws.length cw, .int .i64 sm, .int .i64 toh, .int .i64 (T : Int), .bool true, .int .i64 sn, .int .i64 old, .int .i64 (C : Int), .int .i64 sr, .slice ar rs.length cr], .int .i64 a] w fun e w' => e = .returned (.tuple #[.agg #[.slice (some ⟨bw, 0, none⟩) ws.length cw, .int .i64 sm, .int .i64 toh, .int .i64 ((zag S ⟨ws, T, C⟩ t m).T : Int), .bool true, .int .i64 sn, .int .i64 old, .int .i64 ((zag S ⟨ws, T, C⟩ t m).C : Int), .int .i64 sr, .slice ar rs.length cr], .agg #[.int .i64 t, .int .i64 (zax S ⟨ws, T, C⟩ t m)]]) /\ RwW w' bw (zdf (zag S ⟨ws, T, C⟩ t m).ws x t (zax S ⟨ws, T, C⟩ t m)) /\ Kp [bw] w w' := by
 have hsm := hC.small
 have hw64 := hC.w64
 dsimp only at hsm hw64
 have hlen : (zag S ⟨ws, T, C⟩ t m).ws.length = ws.length := (hC.fwd_same hm).1
 have HFW : Hid (∀ W, RwW W bw ws -> Calls Tryz.prog 75 #[.agg #[.slice (some ⟨bw, 0, none⟩) ws.length cw, .int .i64 sm, .int .i64 toh, .int .i64 (T : Int), .bool true, .int .i64 sn, .int .i64 old, .int .i64 (C : Int), .int .i64 sr, .slice ar rs.length cr], .agg #[.int .i64 t, .int .i64 m]] W fun e w' => e = .returned (.tuple #[.agg #[.slice (some ⟨bw, 0, none⟩) ws.length cw, .int .i64 sm, .int .i64 toh, .int .i64 ((zag S ⟨ws, T, C⟩ t m).T : Int), .bool true, .int .i64 sn, .int .i64 old, .int .i64 ((zag S ⟨ws, T, C⟩ t m).C : Int), .int .i64 sr, .slice ar rs.length cr], .agg #[.int .i64 t, .int .i64 (zax S ⟨ws, T, C⟩ t m)]]) /\ RwW w' bw (zag S ⟨ws, T, C⟩ t m).ws /\ Kp [bw] W w') := fun W hW => zn5 bw cw ws sm toh T true sn old C sr ar cr rs t m W hW hC hH hm hCb
 have HRD : Hid (∀ W, RwW W bw ws -> Calls Tryz.prog 74 #[.slice (some ⟨bw, 0, none⟩) ws.length cw, .int .i64 a] W fun e w' => e = .returned (.tuple #[.agg #[.int .i64 t, .int .i64 m], .bool (za2 ws x)]) /\ Below W.heap.size W w') := fun W hW => by
  rw [<- ht, <- hmx]
  exact zc5 _ ws _ x _ ha (RwW.sl hW cw) (by omega) hw64 hx
 obtain ⟨a2, ha2⟩ : ∃ z, z = (zag S ⟨ws, T, C⟩ t m) := ⟨_, rfl⟩
 obtain ⟨m2, hm2⟩ : ∃ z, z = (zax S ⟨ws, T, C⟩ t m) := ⟨_, rfl⟩
 rw [<- ha2] at HFW hlen ⊢
 rw [<- hm2] at HFW ⊢
 have HPT : Hid (∀ W, RwW W bw a2.ws -> Calls Tryz.prog 55 #[.agg #[.slice (some ⟨bw, 0, none⟩) ws.length cw, .int .i64 sm, .int .i64 toh, .int .i64 (a2.T : Int), .bool true, .int .i64 sn, .int .i64 old, .int .i64 (a2.C : Int), .int .i64 sr, .slice ar rs.length cr], .int .i64 a, .agg #[.int .i64 t, .int .i64 m2]] W fun e w' => e = .returned (.agg #[.slice (some ⟨bw, 0, none⟩) ws.length cw, .int .i64 sm, .int .i64 toh, .int .i64 (a2.T : Int), .bool true, .int .i64 sn, .int .i64 old, .int .i64 (a2.C : Int), .int .i64 sr, .slice ar rs.length cr]) /\ RwW w' bw (zdf a2.ws x t m2) /\ Kp [bw] W w') := fun W hW => by
  have := zvs bw cw a2.ws sm toh (a2.T : Int) true sn old (a2.C : Int) sr ar cr rs x a t m2 W ha hW (by omega) (by omega)
  rw [hlen] at this
  exact this
 have HW : Hid (RwW w bw ws) := hW
 have lbw := hW.lt
 clear hW hC hH hm hlen ha ht hmx ha2 hm2 hw64
 have B0 : Below w.heap.size w (((w.alloc (.cells #[.slice (some ⟨bw, 0, none⟩) ws.length cw, .int .i64 sm, .int .i64 toh, .int .i64 (T : Int), .bool true, .int .i64 sn, .int .i64 old, .int .i64 (C : Int), .int .i64 sr, .slice ar rs.length cr] 29)).alloc (.cells #[.slice none 0 0, .int .i64 0, .int .i64 0, .int .i64 0, .bool false, .int .i64 0, .int .i64 0, .int .i64 0, .int .i64 0, .slice none 0 0] 29)).alloc (.cells #[.int .i64 0, .int .i64 0] 57)) := (zk (Below.refl _ _)).alloc (by simp; omega) _
 go_enter Tryz.func44, Tryz.ntmps44
 go_wp2_with fail
 refine (HRD.out _ (Rw.below HW.out B0)).mono ?_
 rintro e w1 ⟨rfl, b1⟩
 have B1 : Below w.heap.size w w1 := zc B0 b1
 have l1 : w.heap.size + 1 + 1 < w1.heap.size := by have := b1.size; simp at this; omega
 have A1 : w1.rowIs w.heap.size 29 10 (fun i => (#[.slice (some ⟨bw, 0, none⟩) ws.length cw, .int .i64 sm, .int .i64 toh, .int .i64 (T : Int), .bool true, .int .i64 sn, .int .i64 old, .int .i64 (C : Int), .int .i64 sr, .slice ar rs.length cr] : Array Value).getD i (.bool false)) := ⟨#[.slice (some ⟨bw, 0, none⟩) ws.length cw, .int .i64 sm, .int .i64 toh, .int .i64 (T : Int), .bool true, .int .i64 sn, .int .i64 old, .int .i64 (C : Int), .int .i64 sr, .slice ar rs.length cr], (b1.block _ (by first | (simp; done) | (simp; omega))).trans ((zbp (by first | (simp; done) | (simp; omega))).trans ((zbp (by first | (simp; done) | (simp; omega))).trans (zaq rfl))), rfl, fun i hi => by simp [Array.getD, hi]⟩
 have HZ1 : Hid (w1.rowIs (w.heap.size + 1) 29 10 (fun i => (#[.slice none 0 0, .int .i64 0, .int .i64 0, .int .i64 0, .bool false, .int .i64 0, .int .i64 0, .int .i64 0, .int .i64 0, .slice none 0 0] : Array Value).getD i (.bool false))) := ⟨#[.slice none 0 0, .int .i64 0, .int .i64 0, .int .i64 0, .bool false, .int .i64 0, .int .i64 0, .int .i64 0, .int .i64 0, .slice none 0 0], (b1.block _ (by first | (simp; done) | (simp; omega))).trans ((zbp (by first | (simp; done) | (simp; omega))).trans (zaq (by first | (simp; done) | (simp; omega)))), rfl, fun i hi => by simp [Array.getD, hi]⟩
 have HV1 : Hid (w1.rowIs (w.heap.size + 1 + 1) 57 2 (fun i => (#[.int .i64 0, .int .i64 0] : Array Value).getD i (.bool false))) := ⟨#[.int .i64 0, .int .i64 0], (b1.block _ (by simp)).trans (zaq (by simp)), rfl, fun i hi => by simp [Array.getD, hi]⟩
 have k1 := zx A1 rfl
 have HA1 : Hid (w1.rowIs w.heap.size 29 10 (fun i => (#[.slice (some ⟨bw, 0, none⟩) ws.length cw, .int .i64 sm, .int .i64 toh, .int .i64 (T : Int), .bool true, .int .i64 sn, .int .i64 old, .int .i64 (C : Int), .int .i64 sr, .slice ar rs.length cr] : Array Value).getD i (.bool false))) := A1
 have l10 : w.heap.size < w1.heap.size := by omega
 clear b1 A1 B0
 go_wp2_with fail
 refine (HFW.out _ (Rw.of_block HW.out ((((Below.refl w1.heap.size w1).alloc (Nat.le_refl _) _).block _ (by have := B1.size; omega)).trans (B1.block _ lbw)))).mono ?_
 rintro e w2 ⟨rfl, hW2, hK2⟩
 have l2 : w1.heap.size < w2.heap.size := by have := hK2.size; simp at this; omega
 have HKA : Hid (Kp [bw] w1 w2) := (Kp.of_below ((Below.refl w1.heap.size w1).alloc (Nat.le_refl _) _)).trans hK2
 have A2 : w2.rowIs w.heap.size 29 10 (fun i => (#[.slice (some ⟨bw, 0, none⟩) ws.length cw, .int .i64 sm, .int .i64 toh, .int .i64 (T : Int), .bool true, .int .i64 sn, .int .i64 old, .int .i64 (C : Int), .int .i64 sr, .slice ar rs.length cr] : Array Value).getD i (.bool false)) := World.rowIs.of_block HA1.out (HKA.out.block _ l10 (by simp; omega))
 have HZ2 : Hid (w2.rowIs (w.heap.size + 1) 29 10 (fun i => (#[.slice none 0 0, .int .i64 0, .int .i64 0, .int .i64 0, .bool false, .int .i64 0, .int .i64 0, .int .i64 0, .int .i64 0, .slice none 0 0] : Array Value).getD i (.bool false))) := World.rowIs.of_block HZ1.out (HKA.out.block _ (by omega) (by simp; omega))
 have HV2 : Hid (w2.rowIs (w.heap.size + 1 + 1) 57 2 (fun i => (#[.int .i64 0, .int .i64 0] : Array Value).getD i (.bool false))) := World.rowIs.of_block HV1.out (HKA.out.block _ (by omega) (by simp; omega))
 have t2 : w2.rowIs w1.heap.size 57 2 (fun i => (#[.int .i64 t, .int .i64 m] : Array Value).getD i (.bool false)) := ⟨#[.int .i64 t, .int .i64 m], (hK2.block _ (by simp) (by have := B1.size; simp; omega)).trans (zaq rfl), rfl, fun i hi => by simp [Array.getD, hi]⟩
 have HT2 : Hid (w2.rowIs w1.heap.size 57 2 (fun i => (#[.int .i64 t, .int .i64 m] : Array Value).getD i (.bool false))) := t2
 have HK2 : Hid (Kp [bw] w w2) := (Kp.of_below B1).trans HKA.out
 have HW2 : Hid (RwW w2 bw a2.ws) := hW2
 have lbw2 : bw < w2.heap.size := hW2.lt
 have HA2 : Hid (w2.rowIs w.heap.size 29 10 (fun i => (#[.slice (some ⟨bw, 0, none⟩) ws.length cw, .int .i64 sm, .int .i64 toh, .int .i64 (T : Int), .bool true, .int .i64 sn, .int .i64 old, .int .i64 (C : Int), .int .i64 sr, .slice ar rs.length cr] : Array Value).getD i (.bool false))) := A2
 have l20 : w.heap.size < w2.heap.size := by omega
 clear hK2 hW2 HKA t2 A2 k1 HA1 HZ1 HV1 B1 HFW HRD
 go_wp2_with fail
 have B2 : Below w2.heap.size w2 ((w2.alloc (.cells #[.slice (some ⟨bw, 0, none⟩) ws.length cw, .int .i64 sm, .int .i64 toh, .int .i64 (a2.T : Int), .bool true, .int .i64 sn, .int .i64 old, .int .i64 (a2.C : Int), .int .i64 sr, .slice ar rs.length cr] 29)).alloc (.cells #[.int .i64 t, .int .i64 m2] 57)) := ((Below.refl _ _).alloc (Nat.le_refl _) _).alloc (by simp) _
 refine (HPT.out _ (Rw.below HW2.out B2)).mono ?_
 rintro e w3 ⟨rfl, hW3, hK3⟩
 have l3 : w2.heap.size + 1 < w3.heap.size := by have := hK3.size; simp at this; omega
 have HK23 : Hid (Kp [bw] w2 w3) := (Kp.of_below B2).trans hK3
 have A3 := World.rowIs.of_block HA2.out (HK23.out.block _ l20 (by simp; omega))
 have HZ3 : Hid (w3.rowIs (w.heap.size + 1) 29 10 (fun i => (#[.slice none 0 0, .int .i64 0, .int .i64 0, .int .i64 0, .bool false, .int .i64 0, .int .i64 0, .int .i64 0, .int .i64 0, .slice none 0 0] : Array Value).getD i (.bool false))) := World.rowIs.of_block HZ2.out (HK23.out.block _ (by omega) (by simp; omega))
 have HV3 : Hid (w3.rowIs (w.heap.size + 1 + 1) 57 2 (fun i => (#[.int .i64 0, .int .i64 0] : Array Value).getD i (.bool false))) := World.rowIs.of_block HV2.out (HK23.out.block _ (by omega) (by simp; omega))
 have T3 := World.rowIs.of_block HT2.out (HK23.out.block _ l2 (by simp; omega))
 have u3 : ∀ i, w3.cell? ⟨w2.heap.size + 1, i, none⟩ = (#[.int .i64 t, .int .i64 m2] : Array Value)[i]? := fun i => by rw [hK3.cell (p := ⟨w2.heap.size + 1, i, none⟩) (by simp) (by simp; omega)]; simp [go_sem]
 have HK3 : Hid (Kp [bw] w w3) := HK2.out.trans HK23.out
 have HW3 : Hid (RwW w3 bw (zdf a2.ws x t m2)) := hW3
 obtain ⟨d0, d1, d2, d3, d4, d5, d6, d7, d8, d9⟩ := zce A3 rfl rfl rfl rfl rfl rfl rfl rfl rfl rfl
 simp at d0 d1 d2 d3 d4 d5 d6 d7 d8 d9
 have ef := World.rowIs.frozen A3
 have HA3 : Hid (w3.rowIs w.heap.size 29 10 (fun i => (#[.slice (some ⟨bw, 0, none⟩) ws.length cw, .int .i64 sm, .int .i64 toh, .int .i64 (T : Int), .bool true, .int .i64 sn, .int .i64 old, .int .i64 (C : Int), .int .i64 sr, .slice ar rs.length cr] : Array Value).getD i (.bool false))) := A3
 have HT3 : Hid (w3.rowIs w1.heap.size 57 2 (fun i => (#[.int .i64 t, .int .i64 m] : Array Value).getD i (.bool false))) := T3
 clear hK3 hW3 A3 T3 HK23 HA2 HZ2 HV2 HT2 HK2 HW2 B2 HPT
 go_upto_region 5 with fail
 obtain ⟨w4, hw4⟩ : ∃ V, V = ((((((((((w3.setCell ⟨w.heap.size, 0, none⟩ (.slice (some ⟨bw, 0, none⟩) ws.length cw)).setCell ⟨w.heap.size, 1, none⟩ (.int .i64 sm)).setCell ⟨w.heap.size, 2, none⟩ (.int .i64 toh)).setCell ⟨w.heap.size, 3, none⟩ (.int .i64 (a2.T : Int))).setCell ⟨w.heap.size, 4, none⟩ (.bool true)).setCell ⟨w.heap.size, 5, none⟩ (.int .i64 sn)).setCell ⟨w.heap.size, 6, none⟩ (.int .i64 old)).setCell ⟨w.heap.size, 7, none⟩ (.int .i64 (a2.C : Int))).setCell ⟨w.heap.size, 8, none⟩ (.int .i64 sr)).setCell ⟨w.heap.size, 9, none⟩ (.slice ar rs.length cr)) := ⟨_, rfl⟩
 rw [<- hw4]
 have A4r : w4.rowIs w.heap.size 29 10 (fun i => (#[.slice (some ⟨bw, 0, none⟩) ws.length cw, .int .i64 sm, .int .i64 toh, .int .i64 (a2.T : Int), .bool true, .int .i64 sn, .int .i64 old, .int .i64 (a2.C : Int), .int .i64 sr, .slice ar rs.length cr] : Array Value).getD i (.bool false)) := by rw [hw4]; exact zfe HA3.out rfl rfl rfl rfl rfl rfl rfl rfl rfl rfl
 have t4 : ∀ z, z ≠ w.heap.size -> w4.heap[z]? = w3.heap[z]? := fun z hz => by rw [hw4]; exact za3 hz
 have z4 : w4.heap.size = w3.heap.size := by rw [hw4]; simp
 have HZ4 : Hid (w4.rowIs (w.heap.size + 1) 29 10 (fun i => (#[.slice none 0 0, .int .i64 0, .int .i64 0, .int .i64 0, .bool false, .int .i64 0, .int .i64 0, .int .i64 0, .int .i64 0, .slice none 0 0] : Array Value).getD i (.bool false))) := World.rowIs.of_block HZ3.out (t4 _ (by omega))
 have HV4 : Hid (w4.rowIs (w.heap.size + 1 + 1) 57 2 (fun i => (#[.int .i64 0, .int .i64 0] : Array Value).getD i (.bool false))) := World.rowIs.of_block HV3.out (t4 _ (by omega))
 have T4 := World.rowIs.of_block HT3.out (t4 _ (by omega))
 have u4 : ∀ i, w4.cell? ⟨w2.heap.size + 1, i, none⟩ = (#[.int .i64 t, .int .i64 m2] : Array Value)[i]? := fun i => by rw [World.cell?_of_block (w := w3) (a := ⟨w2.heap.size + 1, i, none⟩) (t4 (w2.heap.size + 1) (by omega))]; exact u3 i
 have HK4 : Hid (Kp [bw] w w4) := by show Kp [bw] w w4; rw [hw4]; exact ze8 HK3.out (Nat.le_refl _)
 have HW4 : Hid (RwW w4 bw (zdf a2.ws x t m2)) := Rw.of_block HW3.out (t4 _ (by omega))
 have HA4 : Hid (w4.rowIs w.heap.size 29 10 (fun i => (#[.slice (some ⟨bw, 0, none⟩) ws.length cw, .int .i64 sm, .int .i64 toh, .int .i64 (a2.T : Int), .bool true, .int .i64 sn, .int .i64 old, .int .i64 (a2.C : Int), .int .i64 sr, .slice ar rs.length cr] : Array Value).getD i (.bool false))) := A4r
 have c0 := T4.cell (i := 0) (by omega)
 have c1 := T4.cell (i := 1) (by omega)
 have cf := World.rowIs.frozen T4
 simp at c0 c1
 have HT4 : Hid (w4.rowIs w1.heap.size 57 2 (fun i => (#[.int .i64 t, .int .i64 m] : Array Value).getD i (.bool false))) := T4
 clear hw4 A4r HZ3 HV3 HT3 HK3 HW3 HA3 u3 d0 d1 d2 d3 d4 d5 d6 d7 d8 d9 ef T4
 go_upto_region 6 with fail
 obtain ⟨w5, hw5⟩ : ∃ V, V = (w4.setCell ⟨w1.heap.size, 0, none⟩ (.int .i64 t)).setCell ⟨w1.heap.size, 1, none⟩ (.int .i64 m2) := ⟨_, rfl⟩
 rw [<- hw5]
 have t5 : ∀ z, z ≠ w1.heap.size -> w5.heap[z]? = w4.heap[z]? := fun z hz => by rw [hw5]; exact (Below.heap_setCell _ _ _ _ hz).trans (Below.heap_setCell _ _ _ _ hz)
 have z5 : w5.heap.size = w4.heap.size := by rw [hw5]; simp
 have HZ5 := World.rowIs.of_block HZ4.out (t5 _ (by omega))
 have HV5 := World.rowIs.of_block HV4.out (t5 _ (by omega))
 have A5 := World.rowIs.of_block HA4.out (t5 _ (by omega))
 have a5 := zx A5 rfl
 have v5 : ∀ i, w5.cell? ⟨w1.heap.size, i, none⟩ = (#[.int .i64 t, .int .i64 m2] : Array Value)[i]? := by rw [hw5]; exact zwf (zx HT4.out rfl) _ _
 have HK5 : Hid (Kp [bw] w w5) := by show Kp [bw] w w5; rw [hw5]; exact (HK4.out.setCell (p := ⟨w1.heap.size, 0, none⟩) (.inr (by show w.heap.size <= w1.heap.size; omega)) _).setCell (p := ⟨w1.heap.size, 1, none⟩) (.inr (by show w.heap.size <= w1.heap.size; omega)) _
 have HW5 : Hid (RwW w5 bw (zdf a2.ws x t m2)) := Rw.of_block HW4.out (t5 _ (by omega))
 obtain ⟨d0, d1, d2, d3, d4, d5, d6, d7, d8, d9⟩ := zce HZ5 rfl rfl rfl rfl rfl rfl rfl rfl rfl rfl
 simp at d0 d1 d2 d3 d4 d5 d6 d7 d8 d9
 have ef := World.rowIs.frozen HZ5
 have e0 := HV5.cell (i := 0) (by omega)
 have e1 := HV5.cell (i := 1) (by omega)
 have ff := World.rowIs.frozen HV5
 simp at e0 e1
 clear hw5 HZ4 HV4 HT4 HK4 HW4 HA4 u4 c0 c1 cf A5
 go_region
 all_goals
  try go_wp2
 all_goals
  have q0 : (w5.cell? ⟨w.heap.size + 1, 0, none⟩).isSome = true := by rw [d0]; rfl
  have q1 : (w5.cell? ⟨w.heap.size + 1, 1, none⟩).isSome = true := by rw [d1]; rfl
  have q2 : (w5.cell? ⟨w.heap.size + 1, 2, none⟩).isSome = true := by rw [d2]; rfl
  have q3 : (w5.cell? ⟨w.heap.size + 1, 3, none⟩).isSome = true := by rw [d3]; rfl
  have q4 : (w5.cell? ⟨w.heap.size + 1, 4, none⟩).isSome = true := by rw [d4]; rfl
  have q5 : (w5.cell? ⟨w.heap.size + 1, 5, none⟩).isSome = true := by rw [d5]; rfl
  have q6 : (w5.cell? ⟨w.heap.size + 1, 6, none⟩).isSome = true := by rw [d6]; rfl
  have q7 : (w5.cell? ⟨w.heap.size + 1, 7, none⟩).isSome = true := by rw [d7]; rfl
  have q8 : (w5.cell? ⟨w.heap.size + 1, 8, none⟩).isSome = true := by rw [d8]; rfl
  have q9 : (w5.cell? ⟨w.heap.size + 1, 9, none⟩).isSome = true := by rw [d9]; rfl
  have s0 : (w5.cell? ⟨w.heap.size + 1 + 1, 0, none⟩).isSome = true := by rw [e0]; rfl
  have s1 : (w5.cell? ⟨w.heap.size + 1 + 1, 1, none⟩).isSome = true := by rw [e1]; rfl
  refine bodyPost_ret (v := .tuple #[.agg #[.slice (some ⟨bw, 0, none⟩) ws.length cw, .int .i64 sm, .int .i64 toh, .int .i64 (a2.T : Int), .bool true, .int .i64 sn, .int .i64 old, .int .i64 (a2.C : Int), .int .i64 sr, .slice ar rs.length cr], .agg #[.int .i64 t, .int .i64 m2]]) (by simp [results, Tryz.results44, go_sem, q0, q1, q2, q3, q4, q5, q6, q7, q8, q9, s0, s1]) rfl ⟨rfl, ?_, ?_⟩
  · have nb2 : bw ≠ w.heap.size + 1 + 1 := by omega
    have nb1 : bw ≠ w.heap.size + 1 := by omega
    refine Rw.drew (Rw.other (Rw.other ?_ nb2 _) nb2 _)
    exact Rw.of_block HW5.out (za3 nb1)
  · exact (((ze8 HK5.out (by omega)).setCell (p := ⟨w.heap.size + 1 + 1, 0, none⟩) (.inr (by show w.heap.size <= w.heap.size + 1 + 1; omega)) _).setCell (p := ⟨w.heap.size + 1 + 1, 1, none⟩) (.inr (by show w.heap.size <= w.heap.size + 1 + 1; omega)) _).drew
set_option maxHeartbeats 2000000 in
theorem zub (bw cw : Nat) (ws : List Int) (sm toh : Int) (top : Int) (sn old : Int) (cp : Int) (sr : Int) (ar : Option Addr) (cr : Nat) (rs : List (Int × Int)) (a t m : Int) (x : Nat) (w : World) (hW : RwW w bw ws) (hw64 : zg ws) (hn : ws.length <= 1048576) (ha : a = x) (hx : x + 1 < ws.length) (ht : rvT ws x = t) (hmx : rvN ws x = m) :
 Calls Tryz.prog 44 #[.agg #[.slice (some ⟨bw, 0, none⟩) ws.length cw, .int .i64 sm, .int .i64 toh, .int .i64 top, .bool false, .int .i64 sn, .int .i64 old, .int .i64 cp, .int .i64 sr, .slice ar rs.length cr], .int .i64 a] w fun e w' => e = .returned (.tuple #[.agg #[.slice (some ⟨bw, 0, none⟩) ws.length cw, .int .i64 sm, .int .i64 toh, .int .i64 top, .bool false, .int .i64 sn, .int .i64 old, .int .i64 cp, .int .i64 sr, .slice ar rs.length cr], .agg #[.int .i64 t, .int .i64 m]]) /\ Below w.heap.size w w' := by
 have HRD : Hid (∀ W, RwW W bw ws -> Calls Tryz.prog 74 #[.slice (some ⟨bw, 0, none⟩) ws.length cw, .int .i64 a] W fun e w' => e = .returned (.tuple #[.agg #[.int .i64 t, .int .i64 m], .bool (za2 ws x)]) /\ Below W.heap.size W w') := fun W hW => by
  rw [<- ht, <- hmx]
  exact zc5 _ ws _ x _ ha (RwW.sl hW cw) (by omega) hw64 hx
 have HW : Hid (RwW w bw ws) := hW
 clear hW ha ht hmx hw64
 have B0 : Below w.heap.size w (((w.alloc (.cells #[.slice (some ⟨bw, 0, none⟩) ws.length cw, .int .i64 sm, .int .i64 toh, .int .i64 top, .bool false, .int .i64 sn, .int .i64 old, .int .i64 cp, .int .i64 sr, .slice ar rs.length cr] 29)).alloc (.cells #[.slice none 0 0, .int .i64 0, .int .i64 0, .int .i64 0, .bool false, .int .i64 0, .int .i64 0, .int .i64 0, .int .i64 0, .slice none 0 0] 29)).alloc (.cells #[.int .i64 0, .int .i64 0] 57)) := (zk (Below.refl _ _)).alloc (by simp; omega) _
 go_enter Tryz.func44, Tryz.ntmps44
 go_wp2_with fail
 refine (HRD.out _ (Rw.below HW.out B0)).mono ?_
 rintro e w1 ⟨rfl, b1⟩
 have B1 : Below w.heap.size w w1 := zc B0 b1
 have l1 : w.heap.size + 1 + 1 < w1.heap.size := by have := b1.size; simp at this; omega
 have A1 : w1.rowIs w.heap.size 29 10 (fun i => (#[.slice (some ⟨bw, 0, none⟩) ws.length cw, .int .i64 sm, .int .i64 toh, .int .i64 top, .bool false, .int .i64 sn, .int .i64 old, .int .i64 cp, .int .i64 sr, .slice ar rs.length cr] : Array Value).getD i (.bool false)) := ⟨#[.slice (some ⟨bw, 0, none⟩) ws.length cw, .int .i64 sm, .int .i64 toh, .int .i64 top, .bool false, .int .i64 sn, .int .i64 old, .int .i64 cp, .int .i64 sr, .slice ar rs.length cr], (b1.block _ (by first | (simp; done) | (simp; omega))).trans ((zbp (by first | (simp; done) | (simp; omega))).trans ((zbp (by first | (simp; done) | (simp; omega))).trans (zaq rfl))), rfl, fun i hi => by simp [Array.getD, hi]⟩
 have HZ1 : Hid (w1.rowIs (w.heap.size + 1) 29 10 (fun i => (#[.slice none 0 0, .int .i64 0, .int .i64 0, .int .i64 0, .bool false, .int .i64 0, .int .i64 0, .int .i64 0, .int .i64 0, .slice none 0 0] : Array Value).getD i (.bool false))) := ⟨#[.slice none 0 0, .int .i64 0, .int .i64 0, .int .i64 0, .bool false, .int .i64 0, .int .i64 0, .int .i64 0, .int .i64 0, .slice none 0 0], (b1.block _ (by first | (simp; done) | (simp; omega))).trans ((zbp (by first | (simp; done) | (simp; omega))).trans (zaq (by first | (simp; done) | (simp; omega)))), rfl, fun i hi => by simp [Array.getD, hi]⟩
 have HV1 : Hid (w1.rowIs (w.heap.size + 1 + 1) 57 2 (fun i => (#[.int .i64 0, .int .i64 0] : Array Value).getD i (.bool false))) := ⟨#[.int .i64 0, .int .i64 0], (b1.block _ (by simp)).trans (zaq (by simp)), rfl, fun i hi => by simp [Array.getD, hi]⟩
 have k1 := zx A1 rfl
 have HA1 : Hid (w1.rowIs w.heap.size 29 10 (fun i => (#[.slice (some ⟨bw, 0, none⟩) ws.length cw, .int .i64 sm, .int .i64 toh, .int .i64 top, .bool false, .int .i64 sn, .int .i64 old, .int .i64 cp, .int .i64 sr, .slice ar rs.length cr] : Array Value).getD i (.bool false))) := A1
 have l10 : w.heap.size < w1.heap.size := by omega
 clear b1 A1 B0
 go_upto_region 6 with fail
 obtain ⟨w2, hw2⟩ : ∃ V, V = w1.alloc (.cells #[.int .i64 t, .int .i64 m] 57) := ⟨_, rfl⟩
 rw [<- hw2]
 have B2 : Below w1.heap.size w1 w2 := by rw [hw2]; exact (Below.refl _ _).alloc (Nat.le_refl _) _
 have v2 : ∀ i, w2.cell? ⟨w1.heap.size, i, none⟩ = (#[.int .i64 t, .int .i64 m] : Array Value)[i]? := fun i => by rw [hw2]; simp [go_sem]
 have z2 : w1.heap.size < w2.heap.size := by rw [hw2]; simp
 have HZ2 := World.rowIs.of_block HZ1.out (B2.block _ (by omega))
 have HV2 := World.rowIs.of_block HV1.out (B2.block _ l1)
 have a2 := zx (World.rowIs.of_block HA1.out (B2.block _ l10)) rfl
 have HB2 : Hid (Below w.heap.size w w2) := zc B1 B2
 obtain ⟨d0, d1, d2, d3, d4, d5, d6, d7, d8, d9⟩ := zce HZ2 rfl rfl rfl rfl rfl rfl rfl rfl rfl rfl
 simp at d0 d1 d2 d3 d4 d5 d6 d7 d8 d9
 have ef := World.rowIs.frozen HZ2
 have e0 := HV2.cell (i := 0) (by omega)
 have e1 := HV2.cell (i := 1) (by omega)
 have ff := World.rowIs.frozen HV2
 simp at e0 e1
 clear hw2 HZ1 HV1 HA1 k1 B1 B2
 go_region
 all_goals
  try go_wp2
 all_goals
  have q0 : (w2.cell? ⟨w.heap.size + 1, 0, none⟩).isSome = true := by rw [d0]; rfl
  have q1 : (w2.cell? ⟨w.heap.size + 1, 1, none⟩).isSome = true := by rw [d1]; rfl
  have q2 : (w2.cell? ⟨w.heap.size + 1, 2, none⟩).isSome = true := by rw [d2]; rfl
  have q3 : (w2.cell? ⟨w.heap.size + 1, 3, none⟩).isSome = true := by rw [d3]; rfl
  have q4 : (w2.cell? ⟨w.heap.size + 1, 4, none⟩).isSome = true := by rw [d4]; rfl
  have q5 : (w2.cell? ⟨w.heap.size + 1, 5, none⟩).isSome = true := by rw [d5]; rfl
  have q6 : (w2.cell? ⟨w.heap.size + 1, 6, none⟩).isSome = true := by rw [d6]; rfl
  have q7 : (w2.cell? ⟨w.heap.size + 1, 7, none⟩).isSome = true := by rw [d7]; rfl
  have q8 : (w2.cell? ⟨w.heap.size + 1, 8, none⟩).isSome = true := by rw [d8]; rfl
  have q9 : (w2.cell? ⟨w.heap.size + 1, 9, none⟩).isSome = true := by rw [d9]; rfl
  have s0 : (w2.cell? ⟨w.heap.size + 1 + 1, 0, none⟩).isSome = true := by rw [e0]; rfl
  have s1 : (w2.cell? ⟨w.heap.size + 1 + 1, 1, none⟩).isSome = true := by rw [e1]; rfl
  refine bodyPost_ret (v := .tuple #[.agg #[.slice (some ⟨bw, 0, none⟩) ws.length cw, .int .i64 sm, .int .i64 toh, .int .i64 top, .bool false, .int .i64 sn, .int .i64 old, .int .i64 cp, .int .i64 sr, .slice ar rs.length cr], .agg #[.int .i64 t, .int .i64 m]]) (by simp [results, Tryz.results44, go_sem, q0, q1, q2, q3, q4, q5, q6, q7, q8, q9, s0, s1]) rfl ⟨rfl, ?_⟩
  exact (((zbo HB2.out (by omega)).setCell (p := ⟨w.heap.size + 1 + 1, 0, none⟩) (by show w.heap.size <= w.heap.size + 1 + 1; omega) _).setCell (p := ⟨w.heap.size + 1 + 1, 1, none⟩) (by show w.heap.size <= w.heap.size + 1 + 1; omega) _).drew
open Go.RowKit Go.Shelf
attribute [local go_sem] Oper.semAt_some
set_option maxHeartbeats 2000000 in
theorem zkm (b off cw : Nat) (ws : List Int) (sm toh top : Int) (cyc : Bool) (sn old cp sr : Int) (ar : Option Addr) (cr : Nat) (rs : List (Int × Int)) (P N fF : Nat) (k s f slot : Int) (T : TypeId) (w : World) (hb : b < w.heap.size) (hc : ∀ i, i < ws.length -> w.cell? ⟨b, off + i, none⟩ = some (.int .u64 (za ws i))) (hn : ws.length <= 1048576) (hw : zg ws) (hP : P < ws.length) (hk : rdK (za ws P) = k) (hs : rdS (za ws P) = s) (hs0 : 0 <= s) (hs1 : s <= 65536) (hf0 : 1 <= f) (hf1 : f <= 65536)
 (hNs : ∀ m : Nat, f + 2 * m < s ↔ m < N) (hT : zdt k = T) (hm : ∀ v w, Sem.run Tryz.prog (method 344 T v "loop.example/g00101/impl.firstSlot") w = .ok (fF, v) w) (hfF : ∀ v w, Calls Tryz.prog fF #[v] w fun e w' => e = .returned (.int .i64 f) /\ w' = w) (hen : ∀ args w, (callFunc fF args).run Tryz.prog w = .ok (.enter fF args) w) :
 Calls Tryz.prog 133 #[.agg #[.slice (some ⟨b, off, none⟩) ws.length cw, .int .i64 sm, .int .i64 toh, .int .i64 top, .bool cyc, .int .i64 sn, .int .i64 old, .int .i64 cp, .int .i64 sr, .slice ar rs.length cr], .int .i64 (P : Int), .int .i64 slot] w fun e w' => (((∃ j : Nat, j < N /\ slot = (j : Int) /\ e = .returned (.tuple #[.int .i64 ((P : Int) + f + 2 * (j : Int)), .bool true])) \/ ((∀ j : Nat, j < N -> slot ≠ (j : Int)) /\ e = .returned (.tuple #[.int .i64 0, .bool false])))) /\ Below w.heap.size w w' := by
 refine (callsIn_wide (n := 4)).1 ?_
 refine callsIn_of_wp_marks Tryz.func133 rfl trivial ?_ rfl
 simp only [Tryz.ntmps133, List.size_toArray, List.length_cons, List.length_nil, Nat.reduceAdd, Nat.reduceSub, Array.replicate_succ, Array.replicate_zero, List.push_toArray, List.append_toArray, List.nil_append, List.cons_append]
 obtain ⟨w0, hw0⟩ : ∃ w0, w0 = (((w.alloc (.cells #[.slice (some ⟨b, off, none⟩) ws.length cw, .int .i64 sm, .int .i64 toh, .int .i64 top, .bool cyc, .int .i64 sn, .int .i64 old, .int .i64 cp, .int .i64 sr, .slice ar rs.length cr] 29)).alloc (.cells #[.int .i64 slot] 3)).alloc (.cells #[.int .i64 0] 3)).alloc (.cells #[.bool false] 4) := ⟨_, rfl⟩
 have B0 : Below w.heap.size w w0 := by rw [hw0]; exact ((((Below.refl _ _).alloc (Nat.le_refl _) _).alloc (by simp) _).alloc (by simp; omega) _).alloc (by simp; omega) _
 have z0 : w0.heap.size = w.heap.size + 1 + 1 + 1 + 1 := by rw [hw0]; simp
 have c0 : ∀ i, w0.cell? ⟨w.heap.size, i, none⟩ = (#[.slice (some ⟨b, off, none⟩) ws.length cw, .int .i64 sm, .int .i64 toh, .int .i64 top, .bool cyc, .int .i64 sn, .int .i64 old, .int .i64 cp, .int .i64 sr, .slice ar rs.length cr] : Array Value)[i]? := fun i => by rw [hw0]; simp [go_sem]
 have c1 : w0.cell? ⟨w.heap.size + 1, 0, none⟩ = some (.int .i64 slot) := by rw [hw0]; simp [go_sem]
 have c2 : w0.cell? ⟨w.heap.size + 1 + 1, 0, none⟩ = some (.int .i64 0) := by rw [hw0]; simp [go_sem]
 have c3 : w0.cell? ⟨w.heap.size + 1 + 1 + 1, 0, none⟩ = some (.bool false) := by rw [hw0]; simp [go_sem]
 have f2 : w0.frozen? ⟨w.heap.size + 1 + 1, 0, none⟩ = false := by rw [hw0]; simp [go_sem]
 have f3 : w0.frozen? ⟨w.heap.size + 1 + 1 + 1, 0, none⟩ = false := by rw [hw0]; simp [go_sem]
 have HNs : Hid (∀ m : Nat, f + 2 * m < s ↔ m < N) := hNs
 have HT : Hid (zdt k = T) := hT
 have HF1 : Hid (∀ v w, Sem.run Tryz.prog (method 344 T v "loop.example/g00101/impl.firstSlot") w = .ok (fF, v) w) := hm
 have HF2 : Hid (∀ v w, Calls Tryz.prog fF #[v] w fun e w' => e = .returned (.int .i64 f) /\ w' = w) := hfF
 have HF3 : Hid (∀ args w, (callFunc fF args).run Tryz.prog w = .ok (.enter fF args) w) := hen
 have HC : Hid (∀ i, i < ws.length -> w.cell? ⟨b, off + i, none⟩ = some (.int .u64 (za ws i))) := hc
 have HK : Hid (rdK (za ws P) = k) := hk
 have HS : Hid (rdS (za ws P) = s) := hs
 clear hNs hT hm hfF hen hc hk hs
 gi_wp2_with fail
 rw [<- hw0]
 clear hw0
 refine ⟨trivial, ?_⟩
 refine (callsIn_wide.2 (zj9 _ _ _ _ _ _ _ _ _ _ _ _ _ _ _ _ _)).mono ?_
 rintro e w' ⟨rfl, rfl⟩
 obtain ⟨w5, hw5⟩ : ∃ w5, w5 = ((w0.alloc (.cells #[.slice (some ⟨b, off, none⟩) ws.length cw, .int .i64 sm, .int .i64 toh, .int .i64 top, .bool cyc, .int .i64 sn, .int .i64 old, .int .i64 cp, .int .i64 sr, .slice ar rs.length cr] 29)).alloc (.cells #[.int .i64 (P : Int)] 3)) := ⟨_, rfl⟩
 have B5 : Below w0.heap.size w0 w5 := by rw [hw5]; exact ((Below.refl _ _).alloc (Nat.le_refl _) _).alloc (by simp) _
 have z5 : w5.heap.size = w0.heap.size + 1 + 1 := by rw [hw5]; simp
 have ca : ∀ i, w5.cell? ⟨w.heap.size + 1 + 1 + 1 + 1, i, none⟩ = (#[.slice (some ⟨b, off, none⟩) ws.length cw, .int .i64 sm, .int .i64 toh, .int .i64 top, .bool cyc, .int .i64 sn, .int .i64 old, .int .i64 cp, .int .i64 sr, .slice ar rs.length cr] : Array Value)[i]? := fun i => by rw [hw5, <- z0]; simp [go_sem]
 have ct : w5.cell? ⟨w.heap.size + 1 + 1 + 1 + 1 + 1, 0, none⟩ = some (.int .i64 (P : Int)) := by rw [hw5, <- z0]; simp [go_sem]
 rw [<- hw5]
 clear hw5
 have KP : ∀ V, Below w5.heap.size w5 V -> Below w0.heap.size w0 V := fun V hV => B5.trans (hV.mono (by omega))
 have KW : ∀ V, Below w5.heap.size w5 V -> Below w.heap.size w V := fun V hV => zc B0 (KP V hV)
 have KB : ∀ V, Below w5.heap.size w5 V -> V.cell? ⟨w.heap.size + 1, 0, none⟩ = some (.int .i64 slot) /\ V.cell? ⟨w.heap.size + 1 + 1, 0, none⟩ = some (.int .i64 0) /\ V.cell? ⟨w.heap.size + 1 + 1 + 1, 0, none⟩ = some (.bool false) /\ V.frozen? ⟨w.heap.size + 1 + 1, 0, none⟩ = false /\ V.frozen? ⟨w.heap.size + 1 + 1 + 1, 0, none⟩ = false := fun V hV => by
  have h := KP V hV
  refine ⟨?_, ?_, ?_, ?_, ?_⟩
  · rw [h.cell (p := ⟨w.heap.size + 1, 0, none⟩) (by show w.heap.size + 1 < w0.heap.size; omega)]; exact c1
  · rw [h.cell (p := ⟨w.heap.size + 1 + 1, 0, none⟩) (by show w.heap.size + 1 + 1 < w0.heap.size; omega)]; exact c2
  · rw [h.cell (p := ⟨w.heap.size + 1 + 1 + 1, 0, none⟩) (by show w.heap.size + 1 + 1 + 1 < w0.heap.size; omega)]; exact c3
  · rw [World.frozen?_of_block (h.block _ (by show w.heap.size + 1 + 1 < w0.heap.size; omega))]; exact f2
  · rw [World.frozen?_of_block (h.block _ (by show w.heap.size + 1 + 1 + 1 < w0.heap.size; omega))]; exact f3
 have hc5 := zh hb HC.out (KW w5 (Below.refl _ _))
 have hstops := ziw 3 (by omega) b off cw ws sm toh top cyc sn old cp sr ar cr rs (w.heap.size + 1 + 1 + 1 + 1) (w.heap.size + 1 + 1 + 1 + 1 + 1) P N fF k s f T w5 (by omega) ca ct hc5.1 hc5.2 hn hw hP HK.out HS.out hs0 hs1 hf0 hf1 HNs.out HT.out HF1.out HF2.out HF3.out
 have hsz5 : w.heap.size + 1 + 1 + 1 < w5.heap.size := by omega
 clear ca ct hc5 c0 c1 c2 c3 f2 f3 z5
 gi_wp2_with fail
 refine wpIn_rangeFunc_ownF rfl (by omega) (gf := 198) (lb := #[.pointer (some ⟨w.heap.size + 1 + 1 + 1 + 1, 0, none⟩), .pointer (some ⟨w.heap.size + 1 + 1 + 1 + 1 + 1, 0, none⟩)]) rfl trivial (enters_of Tryz.func198 (by kernel_rfl) rfl) hstops zaa.trans (fun W l o o' _ h ho _ => zaa.putObj W l o o' h ho) (Below.refl _ _) (fun _ => rfl)
  (fun pre V => Hid (∀ x ∈ pre, slot ≠ ((((x : Fin N) : Nat) : Int))) /\ Below w5.heap.size w5 V)
  (fun c pre V => (c = .ret /\ (∃ j : Nat, j < N /\ slot = (j : Int) /\ V.cell? ⟨w.heap.size + 1 + 1, 0, none⟩ = some (.int .i64 ((P : Int) + f + 2 * (j : Int)))) /\ V.cell? ⟨w.heap.size + 1 + 1 + 1, 0, none⟩ = some (.bool true)) /\ Below w.heap.size w V)
  (OwnFrom.and (Own.from (fun s A B row hs hg hr => hs) _) (ownFrom_below (Nat.le_refl _) (Nat.le_refl _)))
  (fun c => OwnFrom.and (Own.from (fun s A B row hs hg hr => ⟨hs.1, by obtain ⟨j, g1, g2, g3⟩ := hs.2.1; exact ⟨j, g1, g2, cell_kept g3 hg hr⟩, cell_kept hs.2.2 hg hr⟩) _) (ownFrom_below (Nat.le_refl _) (by omega)))
  ⟨by intro x hx; simp at hx, Below.refl _ _⟩
  (fun x => { tmps := #[.agg #[.slice (some ⟨b, off, none⟩) ws.length cw, .int .i64 sm, .int .i64 toh, .int .i64 top, .bool cyc, .int .i64 sn, .int .i64 old, .int .i64 cp, .int .i64 sr, .slice ar rs.length cr], .int .i64 (P : Int), .int .i64 slot, .pointer (some ⟨w.heap.size, 0, none⟩), undef, .pointer (some ⟨w.heap.size + 1, 0, none⟩), .pointer (some ⟨w.heap.size + 1 + 1, 0, none⟩), .pointer (some ⟨w.heap.size + 1 + 1 + 1, 0, none⟩), .int .i64 ((x : Nat) : Int), .int .i64 ((P : Int) + f + 2 * ((x : Nat) : Int)), .agg #[.slice (some ⟨b, off, none⟩) ws.length cw, .int .i64 sm, .int .i64 toh, .int .i64 top, .bool cyc, .int .i64 sn, .int .i64 old, .int .i64 cp, .int .i64 sr, .slice ar rs.length cr], .int .i64 (P : Int), .func (.func 198) #[] #[.pointer (some ⟨w.heap.size + 1 + 1 + 1 + 1, 0, none⟩), .pointer (some ⟨w.heap.size + 1 + 1 + 1 + 1 + 1, 0, none⟩)], .int .i64 ((x : Nat) : Int), .int .i64 ((P : Int) + f + 2 * ((x : Nat) : Int)), undef, undef, undef, undef], defers := [] }) ?assign ?body ?done ?stop
 case assign =>
  intro l x W K hK
  gi_wp2
  exact hK
 case body =>
  rintro l pre x V ⟨hok, hB⟩ hlen
  obtain ⟨k1, k2, k3, g2, g3⟩ := KB V hB
  by_cases he : slot = ((((x : Fin N) : Nat) : Int))
  · have HE : Hid (slot = ((((x : Fin N) : Nat) : Int))) := he
    have hd : decide ((((x : Fin N) : Nat) : Int) = slot) = true := decide_eq_true he.symm
    clear hok hstops HK HS HF1 HF2 HF3 HT
    gi_wp2
    have e3 : ((V.setCell ⟨w.heap.size + 1 + 1, 0, none⟩ (.int .i64 ((P : Int) + f + 2 * (((x : Fin N) : Nat) : Int)))).setCell ⟨w.heap.size + 1 + 1 + 1, 0, none⟩ (.bool true)).cell? ⟨w.heap.size + 1 + 1 + 1, 0, none⟩ = some (.bool true) := by simp [go_sem, k3]
    have e2 : ((V.setCell ⟨w.heap.size + 1 + 1, 0, none⟩ (.int .i64 ((P : Int) + f + 2 * (((x : Fin N) : Nat) : Int)))).setCell ⟨w.heap.size + 1 + 1 + 1, 0, none⟩ (.bool true)).cell? ⟨w.heap.size + 1 + 1, 0, none⟩ = some (.int .i64 ((P : Int) + f + 2 * (((x : Fin N) : Nat) : Int))) := by simp [go_sem, k2]
    exact ⟨(KeepsOthers.setCell V _ _).trans (KeepsOthers.setCell _ _ _), ⟨rfl, ⟨x, x.2, HE.out, e2⟩, e3⟩, ((KW V hB).setCell (p := ⟨w.heap.size + 1 + 1, 0, none⟩) (by show w.heap.size <= w.heap.size + 1 + 1; omega) _).setCell (p := ⟨w.heap.size + 1 + 1 + 1, 0, none⟩) (by show w.heap.size <= w.heap.size + 1 + 1 + 1; omega) _⟩
  · have hd : decide ((((x : Fin N) : Nat) : Int) = slot) = false := decide_eq_false (fun g => he g.symm)
    have HNX : Hid (∀ y ∈ pre ++ [x], slot ≠ ((((y : Fin N) : Nat) : Int))) := fun y hy => by
     rcases List.mem_append.1 hy with h | h
     · exact hok.out y h
     · simp at h; subst h; exact he
    clear hok hstops HK HS HF1 HF2 HF3 HT
    gi_wp2
    exact ⟨KeepsOthers.of_below (Below.refl _ _), zaa.refl _, HNX, hB⟩
 case done =>
  rintro D ys V hD rfl ⟨hok, hB⟩ hK
  obtain ⟨k1, k2, k3, g2, g3⟩ := KB V hB
  gi_wp2
  obtain ⟨V2, hV2⟩ : ∃ V2, V2 = (V.setCell ⟨w.heap.size + 1 + 1, 0, none⟩ (.int .i64 0)).setCell ⟨w.heap.size + 1 + 1 + 1, 0, none⟩ (.bool false) := ⟨_, rfl⟩
  have hK2 := (KeepsOthers.setCell V ⟨w.heap.size + 1 + 1, 0, none⟩ (.int .i64 0)).same D _ hK rfl
  have hK' := (KeepsOthers.setCell (V.setCell ⟨w.heap.size + 1 + 1, 0, none⟩ (.int .i64 0)) ⟨w.heap.size + 1 + 1 + 1, 0, none⟩ (.bool false)).same D _ hK2 rfl
  have e3 : V2.cell? ⟨w.heap.size + 1 + 1 + 1, 0, none⟩ = some (.bool false) := by rw [hV2]; simp [go_sem, k3]
  have e2 : V2.cell? ⟨w.heap.size + 1 + 1, 0, none⟩ = some (.int .i64 0) := by rw [hV2]; simp [go_sem, k2]
  have b2 : Below w.heap.size w V2 := by rw [hV2]; exact ((KW V hB).setCell (p := ⟨w.heap.size + 1 + 1, 0, none⟩) (by show w.heap.size <= w.heap.size + 1 + 1; omega) _).setCell (p := ⟨w.heap.size + 1 + 1 + 1, 0, none⟩) (by show w.heap.size <= w.heap.size + 1 + 1 + 1; omega) _
  rw [<- hV2] at hK' ⊢
  refine ⟨by simp, .inl ⟨_, _, rfl, run_takeDeferred hK', ?_⟩⟩
  have d2 := cell_kept e2 (grownBy_putObj' _ D (.deferred none)) (fun r e => by cases e; exact ⟨_, hK', rfl⟩)
  have d3 := cell_kept e3 (grownBy_putObj' _ D (.deferred none)) (fun r e => by cases e; exact ⟨_, hK', rfl⟩)
  refine ⟨.tuple #[.int .i64 0, .bool false], ?_, .inr ⟨fun j hj => hok.out ⟨j, hj⟩ (List.mem_finRange _), rfl⟩, b2.trans (belowK_b (w := w) (Nat.le_refl _) V2 D _ _ (by omega) hK' rfl rfl)⟩
  simp [results, Tryz.results133, go_sem, d2, d3]
 case stop =>
  rintro D c pre V hD hpre ⟨⟨rfl, hin, hcr⟩, hB⟩ hK
  obtain ⟨j, hj, hbad, hcj⟩ := hin
  gi_wp2
  refine ⟨by simp, .inl ⟨_, _, rfl, run_takeDeferred hK, ?_⟩⟩
  have d2 := cell_kept hcj (grownBy_putObj' _ D (.deferred none)) (fun r e => by cases e; exact ⟨_, hK, rfl⟩)
  have d3 := cell_kept hcr (grownBy_putObj' _ D (.deferred none)) (fun r e => by cases e; exact ⟨_, hK, rfl⟩)
  refine ⟨.tuple #[.int .i64 ((P : Int) + f + 2 * (j : Int)), .bool true], ?_, .inl ⟨j, hj, hbad, rfl⟩, hB.trans (belowK_b (w := w) (Nat.le_refl _) V D _ _ (by omega) hK rfl rfl)⟩
  simp [results, Tryz.results133, go_sem, d2, d3]
theorem zr9 (bw cw : Nat) (ws : List Int) (sm toh top : Int) (cyc : Bool) (sn old cp sr : Int) (ar : Option Addr) (cr : Nat) (rs : List (Int × Int)) (br : Nat) (y : Nat -> Int) (vb ob : Nat) (V : Array Value) (r f : Int) (w : World) (hV0 : V[0]? = some (.pointer (some ⟨ob, 0, none⟩))) (hv : ∀ i, w.cell? ⟨vb, i, none⟩ = V[i]?) (lv : vb < w.heap.size) (ho : ∀ i, w.cell? ⟨ob, i, none⟩ = (#[.slice (some ⟨bw, 0, none⟩) ws.length cw, .int .i64 sm, .int .i64 toh, .int .i64 top, .bool cyc, .int .i64 sn, .int .i64 old, .int .i64 cp, .int .i64 sr, .slice ar rs.length cr] : Array Value)[i]?) (lo : ob < w.heap.size) (hn2 : rs.length <= 1048576) (hV1 : V[1]? = some (.int .i64 r)) (hV5 : V[5]? = some (.int .i64 f)) (hr : ¬ (zbf r rs.length = true /\ zbf f rs.length = true)) :
 Calls Tryz.prog 106 #[.pointer (some ⟨vb, 0, none⟩)] w fun e w' => (∃ x, e = .returned (.iface 96 (.agg #[.int .i64 1, .string x]))) /\ Below w.heap.size w w' := by
 have h1 : w.cell? ⟨vb, 1, none⟩ = some (.int .i64 r) := (hv 1).trans hV1
 have h4 : w.cell? ⟨vb, 5, none⟩ = some (.int .i64 f) := (hv 5).trans hV5
 have KP : ∀ W, Below w.heap.size w W -> (Below w.heap.size w W /\ W.cell? ⟨vb, 1, none⟩ = some (.int .i64 r) /\ W.cell? ⟨vb, 5, none⟩ = some (.int .i64 f)) := fun W hW => ⟨hW, by rw [hW.cell (p := ⟨vb, 1, none⟩) lv]; exact h1, by rw [hW.cell (p := ⟨vb, 5, none⟩) lv]; exact h4⟩
 have HV : Hid (∀ i, w.cell? ⟨vb, i, none⟩ = V[i]?) := hv
 have HO : Hid (∀ i, w.cell? ⟨ob, i, none⟩ = (#[.slice (some ⟨bw, 0, none⟩) ws.length cw, .int .i64 sm, .int .i64 toh, .int .i64 top, .bool cyc, .int .i64 sn, .int .i64 old, .int .i64 cp, .int .i64 sr, .slice ar rs.length cr] : Array Value)[i]?) := ho
 have HWR : Hid (∀ (W : World) (lb cl : Nat), Below w.heap.size w W -> W.cell? ⟨lb, 0, none⟩ = some (.int .i64 r) -> W.cell? ⟨lb, 1, none⟩ = some (.int .i64 f) -> Calls Tryz.prog 130 #[.pointer (some ⟨vb, 0, none⟩), .slice (some ⟨lb, 0, none⟩) 2 cl] W fun e w' => (∃ x, e = .returned (.iface 96 (.agg #[.int .i64 1, .string x]))) /\ Below w.heap.size w w') := fun W lb cl hW c0 c1 => by
  refine (zeu (some ⟨bw, 0, none⟩) cw ws sm toh top cyc sn old cp sr ar cr rs vb ob lb 2 cl V (fun i => if i = 0 then r else f) W hV0 (zd HV.out hW lv) (Nat.lt_of_lt_of_le lv hW.size) (zd HO.out hW lo) (Nat.lt_of_lt_of_le lo hW.size) (fun i hi => ?_) (World.block_lt_of_cell? _ ⟨lb, 0, none⟩ c0) (by omega) hn2).mono ?_
  · match i with
    | 0 => exact c0
    | 1 => exact c1
  · rintro e w' ⟨h | h, b⟩
    · exact absurd ⟨by simpa using h.1 0 (by omega), by simpa using h.1 1 (by omega)⟩ hr
    · exact ⟨h.2, zc hW b⟩
 have b0' := (Below.refl w.heap.size w).drew
 clear hv ho hV0 h1 h4
 go_enter Tryz.func106, Tryz.ntmps106
 go_upto_region 1 with fail
 go_region_held3 (fun W => Below w.heap.size w W /\ W.cell? ⟨vb, 1, none⟩ = some (.int .i64 r) /\ W.cell? ⟨vb, 5, none⟩ = some (.int .i64 f)) (first | assumption | exact KP _ b0' | exact KP _ (by assumption) | exact KP _ (zao (And.left (by assumption)) _)) (first | (go_at_call 130; refine (HWR.out _ _ _ (by first | exact zao (And.left (by assumption)) _ | exact And.left (by assumption)) (by simp [go_sem]) (by simp [go_sem])).mono ?_; rintro e w2 ⟨⟨x, rfl⟩, b2⟩))
 all_goals
  go_wp2
  go_ret
  exact ⟨⟨_, rfl⟩, b2⟩
set_option maxHeartbeats 2000000 in
theorem zvq (bw cw : Nat) (ws : List Int) (sm toh top : Int) (cyc : Bool) (sn old cp sr : Int) (ar : Option Addr) (cr : Nat) (rs : List (Int × Int)) (br : Nat) (y : Nat -> Int) (vb ob : Nat) (V : Array Value) (w : World) (hV0 : V[0]? = some (.pointer (some ⟨ob, 0, none⟩))) (hv : ∀ i, w.cell? ⟨vb, i, none⟩ = V[i]?) (lv : vb < w.heap.size) (ho : ∀ i, w.cell? ⟨ob, i, none⟩ = (#[.slice (some ⟨bw, 0, none⟩) ws.length cw, .int .i64 sm, .int .i64 toh, .int .i64 top, .bool cyc, .int .i64 sn, .int .i64 old, .int .i64 cp, .int .i64 sr, .slice ar rs.length cr] : Array Value)[i]?) (lo : ob < w.heap.size) (hn2 : rs.length <= 1048576) (hR : zdy w ar br rs.length y) (k j : Nat) (hk : k < rs.length) (hj : j < rs.length) (hV1 : V[1]? = some (.int .i64 (k : Int))) (hV5 : V[5]? = some (.int .i64 (j : Int))) (h9 : isR (y (2 * k)) = true -> y (2 * k) = 4) :
 Calls Tryz.prog 106 #[.pointer (some ⟨vb, 0, none⟩)] w fun e w' => (∃ x, e = .returned (.iface 96 (.agg #[.int .i64 1, .string x]))) /\ Below w.heap.size w w' := by
 have HV : Hid (∀ i, w.cell? ⟨vb, i, none⟩ = V[i]?) := hv
 have HO : Hid (∀ i, w.cell? ⟨ob, i, none⟩ = (#[.slice (some ⟨bw, 0, none⟩) ws.length cw, .int .i64 sm, .int .i64 toh, .int .i64 top, .bool cyc, .int .i64 sn, .int .i64 old, .int .i64 cp, .int .i64 sr, .slice ar rs.length cr] : Array Value)[i]?) := ho
 obtain ⟨rfl, hR'⟩ : ar = some ⟨br, 0, none⟩ /\ RwR w br rs.length y := by
  rcases hR with h | h
  · omega
  · exact h
 have lr := hR'.lt
 have q0 : w.cell? ⟨br, k * 2, none⟩ = some (.int .i64 (y (2 * k))) := by rw [Nat.mul_comm]; exact hR'.cell (by omega)
 have q1 : w.cell? ⟨br, k * 2 + 1, none⟩ = some (.int .i64 (y (2 * k + 1))) := by rw [Nat.mul_comm]; exact hR'.cell (by omega)
 have q2 : w.cell? ⟨br, j * 2, none⟩ = some (.int .i64 (y (2 * j))) := by rw [Nat.mul_comm]; exact hR'.cell (by omega)
 have q3 : w.cell? ⟨br, j * 2 + 1, none⟩ = some (.int .i64 (y (2 * j + 1))) := by rw [Nat.mul_comm]; exact hR'.cell (by omega)
 have h0 : w.cell? ⟨vb, 0, none⟩ = some (.pointer (some ⟨ob, 0, none⟩)) := (hv 0).trans hV0
 have h1 : w.cell? ⟨vb, 1, none⟩ = some (.int .i64 (k : Int)) := (hv 1).trans hV1
 have h4 : w.cell? ⟨vb, 5, none⟩ = some (.int .i64 (j : Int)) := (hv 5).trans hV5
 have o0 : w.cell? ⟨ob, 0, none⟩ = some (.slice (some ⟨bw, 0, none⟩) ws.length cw) := ho 0
 have o9 : w.cell? ⟨ob, 9, none⟩ = some (.slice (some ⟨br, 0, none⟩) rs.length cr) := ho 9
 have hk' : (k : Int) < (rs.length : Int) := by omega
 have hj' : (j : Int) < (rs.length : Int) := by omega
 have KC : ∀ W, Below w.heap.size w W -> (Below w.heap.size w W /\ W.cell? ⟨vb, 0, none⟩ = some (.pointer (some ⟨ob, 0, none⟩)) /\ W.cell? ⟨vb, 1, none⟩ = some (.int .i64 (k : Int)) /\ W.cell? ⟨vb, 5, none⟩ = some (.int .i64 (j : Int)) /\ W.cell? ⟨ob, 0, none⟩ = some (.slice (some ⟨bw, 0, none⟩) ws.length cw) /\ W.cell? ⟨ob, 9, none⟩ = some (.slice (some ⟨br, 0, none⟩) rs.length cr) /\ W.cell? ⟨br, k * 2, none⟩ = some (.int .i64 (y (2 * k))) /\ W.cell? ⟨br, k * 2 + 1, none⟩ = some (.int .i64 (y (2 * k + 1))) /\ W.cell? ⟨br, j * 2, none⟩ = some (.int .i64 (y (2 * j))) /\ W.cell? ⟨br, j * 2 + 1, none⟩ = some (.int .i64 (y (2 * j + 1)))) := fun W hW => ⟨hW, by rw [hW.cell (p := ⟨vb, 0, none⟩) lv]; exact h0, by rw [hW.cell (p := ⟨vb, 1, none⟩) lv]; exact h1, by rw [hW.cell (p := ⟨vb, 5, none⟩) lv]; exact h4, by rw [hW.cell (p := ⟨ob, 0, none⟩) lo]; exact o0, by rw [hW.cell (p := ⟨ob, 9, none⟩) lo]; exact o9, by rw [hW.cell (p := ⟨br, k * 2, none⟩) lr]; exact q0, by rw [hW.cell (p := ⟨br, k * 2 + 1, none⟩) lr]; exact q1, by rw [hW.cell (p := ⟨br, j * 2, none⟩) lr]; exact q2, by rw [hW.cell (p := ⟨br, j * 2 + 1, none⟩) lr]; exact q3⟩
 have HWR : Hid (∀ (W : World) (lb cl : Nat), Below w.heap.size w W -> W.cell? ⟨lb, 0, none⟩ = some (.int .i64 (k : Int)) -> W.cell? ⟨lb, 1, none⟩ = some (.int .i64 (j : Int)) -> Calls Tryz.prog 130 #[.pointer (some ⟨vb, 0, none⟩), .slice (some ⟨lb, 0, none⟩) 2 cl] W fun e w' => e = .returned .nilIface /\ Below w.heap.size w w') := fun W lb cl hW c0 c1 => by
  refine (zeu (some ⟨bw, 0, none⟩) cw ws sm toh top cyc sn old cp sr _ cr rs vb ob lb 2 cl V (fun i => if i = 0 then (k : Int) else (j : Int)) W hV0 (zd HV.out hW lv) (Nat.lt_of_lt_of_le lv hW.size) (zd HO.out hW lo) (Nat.lt_of_lt_of_le lo hW.size) (fun i hi => ?_) (World.block_lt_of_cell? _ ⟨lb, 0, none⟩ c0) (by omega) hn2).mono ?_
  · match i with
    | 0 => exact c0
    | 1 => exact c1
  · rintro e w' ⟨h | h, b⟩
    · exact ⟨h.2, zc hW b⟩
    · refine absurd (fun i hi => ?_) h.1
      match i with
      | 0 => simp [zbf]; omega
      | 1 => simp [zbf]; omega
 have b0' := (Below.refl w.heap.size w).drew
 clear hv ho hV0 hR' hR h0 h1 h4 o0 o9 q0 q1 q2 q3
 obtain ⟨t, ht⟩ : ∃ t, t = y (2 * k) := ⟨_, rfl⟩
 obtain ⟨m, hm⟩ : ∃ m, m = y (2 * k + 1) := ⟨_, rfl⟩
 obtain ⟨t2, ht2⟩ : ∃ t, t = y (2 * j) := ⟨_, rfl⟩
 obtain ⟨m2, hm2⟩ : ∃ m, m = y (2 * j + 1) := ⟨_, rfl⟩
 rw [<- ht, <- hm, <- ht2, <- hm2] at KC
 clear hV1 hV5
 rw [<- ht] at h9
 clear ht hm ht2 hm2
 go_enter Tryz.func106, Tryz.ntmps106
 go_upto_region 1 with fail
 go_cut [3] from 7 to 17 (fun s3 wc => s3 = .nilIface /\ Below w.heap.size w wc)
 case first =>
  go_region_held3 (fun W => (Below w.heap.size w W /\ W.cell? ⟨vb, 0, none⟩ = some (.pointer (some ⟨ob, 0, none⟩)) /\ W.cell? ⟨vb, 1, none⟩ = some (.int .i64 (k : Int)) /\ W.cell? ⟨vb, 5, none⟩ = some (.int .i64 (j : Int)) /\ W.cell? ⟨ob, 0, none⟩ = some (.slice (some ⟨bw, 0, none⟩) ws.length cw) /\ W.cell? ⟨ob, 9, none⟩ = some (.slice (some ⟨br, 0, none⟩) rs.length cr) /\ W.cell? ⟨br, k * 2, none⟩ = some (.int .i64 t) /\ W.cell? ⟨br, k * 2 + 1, none⟩ = some (.int .i64 m) /\ W.cell? ⟨br, j * 2, none⟩ = some (.int .i64 t2) /\ W.cell? ⟨br, j * 2 + 1, none⟩ = some (.int .i64 m2))) (first | assumption | exact KC _ b0' | exact KC _ (by assumption) | exact KC _ (zao (And.left (by assumption)) _)) (first | (go_at_call 130; refine (HWR.out _ _ _ (by first | exact zao (And.left (by assumption)) _ | exact And.left (by assumption)) (by simp [go_sem]) (by simp [go_sem])).mono ?_; rintro e w2 ⟨rfl, b2⟩))
  all_goals
   go_wp2_with fail
   go_meet
   exact ⟨rfl, b2⟩
 case rest =>
  obtain ⟨rfl, hBc⟩ := hcut
  have KD := KC _ hBc
  obtain ⟨_, c0, c1, c4, a0, a9, q0, q1, q2, q3⟩ := KD
  have lvc : vb < wc.heap.size := Nat.lt_of_lt_of_le lv hBc.size
  have loc : ob < wc.heap.size := Nat.lt_of_lt_of_le lo hBc.size
  have lrc : br < wc.heap.size := Nat.lt_of_lt_of_le lr hBc.size
  go_upto_region 4 with fail
  go_region
  have hB5 : Below w.heap.size w (wc.alloc (.cells #[.int .i64 t, .int .i64 m] 57)).drew := (zao hBc _).drew
  obtain ⟨w5, hw5⟩ : ∃ V, V = (wc.alloc (.cells #[.int .i64 t, .int .i64 m] 57)).drew := ⟨_, rfl⟩
  have cb : ∀ i, w5.cell? ⟨wc.heap.size, i, none⟩ = (#[.int .i64 t, .int .i64 m] : Array Value)[i]? := fun i => by rw [hw5]; simp [go_sem]
  have lb5 : wc.heap.size < w5.heap.size := by rw [hw5]; simp
  rw [<- hw5] at hB5 ⊢
  clear hw5 c0 c1 c4 a0 a9 q0 q1 q2 q3 KC HWR
  cases hr : isR t with
  | false =>
    go_wp2_with (first | (go_at_call 131; refine (zah _ _ _).mono ?_; rw [hr]; rintro e w6 ⟨rfl, b6⟩; have hB6 := zc hB5 b6; have cb6 := zd cb b6 lb5) | (go_at_call 132; refine (zjn _ _).mono ?_; rintro e w3 ⟨rfl, rfl⟩))
    go_ret
    exact ⟨⟨_, rfl⟩, hB6⟩
  | true =>
    have h4 := h9 hr
    subst h4
    go_wp2_with (first | (go_at_call 131; refine (zah _ _ _).mono ?_; rw [hr]; rintro e w6 ⟨rfl, b6⟩; have hB6 := zc hB5 b6; have cb6 := zd cb b6 lb5) | (go_at_call 132; refine (zjn _ _).mono ?_; rintro e w3 ⟨rfl, rfl⟩))
    go_ret
    exact ⟨⟨_, rfl⟩, hB6⟩
set_option maxHeartbeats 2000000 in
theorem zt7 (bw cw : Nat) (ws : List Int) (sm toh top : Int) (cyc : Bool) (sn old cp sr : Int) (ar : Option Addr) (cr : Nat) (rs : List (Int × Int)) (br : Nat) (y : Nat -> Int) (vb ob : Nat) (V : Array Value) (w : World) (hV0 : V[0]? = some (.pointer (some ⟨ob, 0, none⟩))) (hv : ∀ i, w.cell? ⟨vb, i, none⟩ = V[i]?) (lv : vb < w.heap.size) (ho : ∀ i, w.cell? ⟨ob, i, none⟩ = (#[.slice (some ⟨bw, 0, none⟩) ws.length cw, .int .i64 sm, .int .i64 toh, .int .i64 top, .bool cyc, .int .i64 sn, .int .i64 old, .int .i64 cp, .int .i64 sr, .slice ar rs.length cr] : Array Value)[i]?) (lo : ob < w.heap.size) (hn2 : rs.length <= 1048576) (hR : zdy w ar br rs.length y) (k j : Nat) (hk : k < rs.length) (hj : j < rs.length) (hV1 : V[1]? = some (.int .i64 (k : Int))) (hV5 : V[5]? = some (.int .i64 (j : Int))) (slot : Int) (hV7 : V[7]? = some (.int .i64 slot)) (hr0 : isR (y (2 * k)) = true) (h40 : y (2 * k) ≠ 4) (HPL : Hid (∀ W, Below w.heap.size w W -> Calls Tryz.prog 133 #[.agg #[.slice (some ⟨bw, 0, none⟩) ws.length cw, .int .i64 sm, .int .i64 toh, .int .i64 top, .bool cyc, .int .i64 sn, .int .i64 old, .int .i64 cp, .int .i64 sr, .slice ar rs.length cr], .int .i64 (y (2 * k + 1)), .int .i64 slot] W fun e w' => e = .returned (.tuple #[.int .i64 0, .bool false]) /\ Below W.heap.size W w')) :
 Calls Tryz.prog 106 #[.pointer (some ⟨vb, 0, none⟩)] w fun e w' => (∃ x, e = .returned (.iface 96 (.agg #[.int .i64 1, .string x]))) /\ Below w.heap.size w w' := by
 have h7 : w.cell? ⟨vb, 7, none⟩ = some (.int .i64 slot) := (hv 7).trans hV7
 have HV : Hid (∀ i, w.cell? ⟨vb, i, none⟩ = V[i]?) := hv
 have HO : Hid (∀ i, w.cell? ⟨ob, i, none⟩ = (#[.slice (some ⟨bw, 0, none⟩) ws.length cw, .int .i64 sm, .int .i64 toh, .int .i64 top, .bool cyc, .int .i64 sn, .int .i64 old, .int .i64 cp, .int .i64 sr, .slice ar rs.length cr] : Array Value)[i]?) := ho
 obtain ⟨rfl, hR'⟩ : ar = some ⟨br, 0, none⟩ /\ RwR w br rs.length y := by
  rcases hR with h | h
  · omega
  · exact h
 have lr := hR'.lt
 have q0 : w.cell? ⟨br, k * 2, none⟩ = some (.int .i64 (y (2 * k))) := by rw [Nat.mul_comm]; exact hR'.cell (by omega)
 have q1 : w.cell? ⟨br, k * 2 + 1, none⟩ = some (.int .i64 (y (2 * k + 1))) := by rw [Nat.mul_comm]; exact hR'.cell (by omega)
 have q2 : w.cell? ⟨br, j * 2, none⟩ = some (.int .i64 (y (2 * j))) := by rw [Nat.mul_comm]; exact hR'.cell (by omega)
 have q3 : w.cell? ⟨br, j * 2 + 1, none⟩ = some (.int .i64 (y (2 * j + 1))) := by rw [Nat.mul_comm]; exact hR'.cell (by omega)
 have h0 : w.cell? ⟨vb, 0, none⟩ = some (.pointer (some ⟨ob, 0, none⟩)) := (hv 0).trans hV0
 have h1 : w.cell? ⟨vb, 1, none⟩ = some (.int .i64 (k : Int)) := (hv 1).trans hV1
 have h4 : w.cell? ⟨vb, 5, none⟩ = some (.int .i64 (j : Int)) := (hv 5).trans hV5
 have o0 : w.cell? ⟨ob, 0, none⟩ = some (.slice (some ⟨bw, 0, none⟩) ws.length cw) := ho 0
 have o9 : w.cell? ⟨ob, 9, none⟩ = some (.slice (some ⟨br, 0, none⟩) rs.length cr) := ho 9
 have hk' : (k : Int) < (rs.length : Int) := by omega
 have hj' : (j : Int) < (rs.length : Int) := by omega
 have KC : ∀ W, Below w.heap.size w W -> (Below w.heap.size w W /\ W.cell? ⟨vb, 0, none⟩ = some (.pointer (some ⟨ob, 0, none⟩)) /\ W.cell? ⟨vb, 1, none⟩ = some (.int .i64 (k : Int)) /\ W.cell? ⟨vb, 5, none⟩ = some (.int .i64 (j : Int)) /\ W.cell? ⟨ob, 0, none⟩ = some (.slice (some ⟨bw, 0, none⟩) ws.length cw) /\ W.cell? ⟨ob, 9, none⟩ = some (.slice (some ⟨br, 0, none⟩) rs.length cr) /\ W.cell? ⟨br, k * 2, none⟩ = some (.int .i64 (y (2 * k))) /\ W.cell? ⟨br, k * 2 + 1, none⟩ = some (.int .i64 (y (2 * k + 1))) /\ W.cell? ⟨br, j * 2, none⟩ = some (.int .i64 (y (2 * j))) /\ W.cell? ⟨br, j * 2 + 1, none⟩ = some (.int .i64 (y (2 * j + 1)))) := fun W hW => ⟨hW, by rw [hW.cell (p := ⟨vb, 0, none⟩) lv]; exact h0, by rw [hW.cell (p := ⟨vb, 1, none⟩) lv]; exact h1, by rw [hW.cell (p := ⟨vb, 5, none⟩) lv]; exact h4, by rw [hW.cell (p := ⟨ob, 0, none⟩) lo]; exact o0, by rw [hW.cell (p := ⟨ob, 9, none⟩) lo]; exact o9, by rw [hW.cell (p := ⟨br, k * 2, none⟩) lr]; exact q0, by rw [hW.cell (p := ⟨br, k * 2 + 1, none⟩) lr]; exact q1, by rw [hW.cell (p := ⟨br, j * 2, none⟩) lr]; exact q2, by rw [hW.cell (p := ⟨br, j * 2 + 1, none⟩) lr]; exact q3⟩
 have HWR : Hid (∀ (W : World) (lb cl : Nat), Below w.heap.size w W -> W.cell? ⟨lb, 0, none⟩ = some (.int .i64 (k : Int)) -> W.cell? ⟨lb, 1, none⟩ = some (.int .i64 (j : Int)) -> Calls Tryz.prog 130 #[.pointer (some ⟨vb, 0, none⟩), .slice (some ⟨lb, 0, none⟩) 2 cl] W fun e w' => e = .returned .nilIface /\ Below w.heap.size w w') := fun W lb cl hW c0 c1 => by
  refine (zeu (some ⟨bw, 0, none⟩) cw ws sm toh top cyc sn old cp sr _ cr rs vb ob lb 2 cl V (fun i => if i = 0 then (k : Int) else (j : Int)) W hV0 (zd HV.out hW lv) (Nat.lt_of_lt_of_le lv hW.size) (zd HO.out hW lo) (Nat.lt_of_lt_of_le lo hW.size) (fun i hi => ?_) (World.block_lt_of_cell? _ ⟨lb, 0, none⟩ c0) (by omega) hn2).mono ?_
  · match i with
    | 0 => exact c0
    | 1 => exact c1
  · rintro e w' ⟨h | h, b⟩
    · exact ⟨h.2, zc hW b⟩
    · refine absurd (fun i hi => ?_) h.1
      match i with
      | 0 => simp [zbf]; omega
      | 1 => simp [zbf]; omega
 have b0' := (Below.refl w.heap.size w).drew
 clear hv ho hV0 hR' hR h0 h1 h4 o0 o9 q0 q1 q2 q3
 obtain ⟨t, ht⟩ : ∃ t, t = y (2 * k) := ⟨_, rfl⟩
 obtain ⟨m, hm⟩ : ∃ m, m = y (2 * k + 1) := ⟨_, rfl⟩
 obtain ⟨t2, ht2⟩ : ∃ t, t = y (2 * j) := ⟨_, rfl⟩
 obtain ⟨m2, hm2⟩ : ∃ m, m = y (2 * j + 1) := ⟨_, rfl⟩
 rw [<- ht, <- hm, <- ht2, <- hm2] at KC
 clear hV1 hV5
 rw [<- ht] at hr0 h40
 rw [<- hm] at HPL
 have e4 : (t == 4) = false := by simpa using h40
 clear ht hm ht2 hm2 h40 hV7
 go_enter Tryz.func106, Tryz.ntmps106
 go_upto_region 1 with fail
 go_cut [3] from 7 to 17 (fun s3 wc => s3 = .nilIface /\ Below w.heap.size w wc)
 case first =>
  go_region_held3 (fun W => (Below w.heap.size w W /\ W.cell? ⟨vb, 0, none⟩ = some (.pointer (some ⟨ob, 0, none⟩)) /\ W.cell? ⟨vb, 1, none⟩ = some (.int .i64 (k : Int)) /\ W.cell? ⟨vb, 5, none⟩ = some (.int .i64 (j : Int)) /\ W.cell? ⟨ob, 0, none⟩ = some (.slice (some ⟨bw, 0, none⟩) ws.length cw) /\ W.cell? ⟨ob, 9, none⟩ = some (.slice (some ⟨br, 0, none⟩) rs.length cr) /\ W.cell? ⟨br, k * 2, none⟩ = some (.int .i64 t) /\ W.cell? ⟨br, k * 2 + 1, none⟩ = some (.int .i64 m) /\ W.cell? ⟨br, j * 2, none⟩ = some (.int .i64 t2) /\ W.cell? ⟨br, j * 2 + 1, none⟩ = some (.int .i64 m2))) (first | assumption | exact KC _ b0' | exact KC _ (by assumption) | exact KC _ (zao (And.left (by assumption)) _)) (first | (go_at_call 130; refine (HWR.out _ _ _ (by first | exact zao (And.left (by assumption)) _ | exact And.left (by assumption)) (by simp [go_sem]) (by simp [go_sem])).mono ?_; rintro e w2 ⟨rfl, b2⟩))
  all_goals
   go_wp2_with fail
   go_meet
   exact ⟨rfl, b2⟩
 case rest =>
  obtain ⟨rfl, hBc⟩ := hcut
  have KD := KC _ hBc
  obtain ⟨_, c0, c1, c4, a0, a9, q0, q1, q2, q3⟩ := KD
  have lvc : vb < wc.heap.size := Nat.lt_of_lt_of_le lv hBc.size
  have loc : ob < wc.heap.size := Nat.lt_of_lt_of_le lo hBc.size
  have lrc : br < wc.heap.size := Nat.lt_of_lt_of_le lr hBc.size
  go_upto_region 4 with fail
  go_region
  have hB5 : Below w.heap.size w (wc.alloc (.cells #[.int .i64 t, .int .i64 m] 57)).drew := (zao hBc _).drew
  obtain ⟨w5, hw5⟩ : ∃ V, V = (wc.alloc (.cells #[.int .i64 t, .int .i64 m] 57)).drew := ⟨_, rfl⟩
  have cb : ∀ i, w5.cell? ⟨wc.heap.size, i, none⟩ = (#[.int .i64 t, .int .i64 m] : Array Value)[i]? := fun i => by rw [hw5]; simp [go_sem]
  have lb5 : wc.heap.size < w5.heap.size := by rw [hw5]; simp
  rw [<- hw5] at hB5 ⊢
  clear hw5 c0 c1 c4 a0 a9 q0 q1 q2 q3 HWR
  go_upto_region 7 with (go_at_call 131; refine (zah _ _ _).mono ?_; rw [hr0]; rintro e w6 ⟨rfl, b6⟩; have hB6 := zc hB5 b6; have cb6 := zd cb b6 lb5; have lb6 := Nat.lt_of_lt_of_le lb5 b6.size; clear b6)
  have v0 : w6.cell? ⟨vb, 0, none⟩ = some (.pointer (some ⟨ob, 0, none⟩)) := (KC w6 hB6).2.1
  have v7 : w6.cell? ⟨vb, 7, none⟩ = some (.int .i64 slot) := by rw [hB6.cell (p := ⟨vb, 7, none⟩) lv]; exact h7
  have O6 := zd HO.out hB6 lo
  have m6 : w6.cell? ⟨wc.heap.size, 1, none⟩ = some (.int .i64 m) := cb6 1
  have lv6 : vb < w6.heap.size := Nat.lt_of_lt_of_le lv hB6.size
  have lo6 : ob < w6.heap.size := Nat.lt_of_lt_of_le lo hB6.size
  have KP : ∀ W, Below w6.heap.size w6 W -> (Below w6.heap.size w6 W /\ W.cell? ⟨vb, 0, none⟩ = some (.pointer (some ⟨ob, 0, none⟩)) /\ W.cell? ⟨vb, 7, none⟩ = some (.int .i64 slot) /\ W.cell? ⟨wc.heap.size, 1, none⟩ = some (.int .i64 m) /\ (∀ i, W.cell? ⟨ob, i, none⟩ = (#[.slice (some ⟨bw, 0, none⟩) ws.length cw, .int .i64 sm, .int .i64 toh, .int .i64 top, .bool cyc, .int .i64 sn, .int .i64 old, .int .i64 cp, .int .i64 sr, .slice (some ⟨br, 0, none⟩) rs.length cr] : Array Value)[i]?)) := fun W hW => ⟨hW, by rw [hW.cell (p := ⟨vb, 0, none⟩) lv6]; exact v0, by rw [hW.cell (p := ⟨vb, 7, none⟩) lv6]; exact v7, by rw [hW.cell (p := ⟨wc.heap.size, 1, none⟩) lb6]; exact m6, zd O6 hW lo6⟩
  have b6' := (Below.refl w6.heap.size w6).drew
  have HP6 : Hid (∀ W, Below w6.heap.size w6 W -> Calls Tryz.prog 133 #[.agg #[.slice (some ⟨bw, 0, none⟩) ws.length cw, .int .i64 sm, .int .i64 toh, .int .i64 top, .bool cyc, .int .i64 sn, .int .i64 old, .int .i64 cp, .int .i64 sr, .slice (some ⟨br, 0, none⟩) rs.length cr], .int .i64 m, .int .i64 slot] W fun e w' => e = .returned (.tuple #[.int .i64 0, .bool false]) /\ Below w6.heap.size w6 w') := fun W hW => (HPL.out W (zc hB6 hW)).mono (fun e w' ⟨h1, h2⟩ => ⟨h1, zc hW h2⟩)
  clear v0 v7 O6 m6 cb cb6 h7 HPL
  go_region_held3 (fun W => (Below w6.heap.size w6 W /\ W.cell? ⟨vb, 0, none⟩ = some (.pointer (some ⟨ob, 0, none⟩)) /\ W.cell? ⟨vb, 7, none⟩ = some (.int .i64 slot) /\ W.cell? ⟨wc.heap.size, 1, none⟩ = some (.int .i64 m) /\ (∀ i, W.cell? ⟨ob, i, none⟩ = (#[.slice (some ⟨bw, 0, none⟩) ws.length cw, .int .i64 sm, .int .i64 toh, .int .i64 top, .bool cyc, .int .i64 sn, .int .i64 old, .int .i64 cp, .int .i64 sr, .slice (some ⟨br, 0, none⟩) rs.length cr] : Array Value)[i]?))) (first | assumption | exact KP _ b6' | exact KP _ (by assumption)) (first | (go_at_call 133; refine (HP6.out _ (And.left (by first | assumption | exact KP _ b6'))).mono ?_; rintro e w7 ⟨rfl, b7⟩))
  all_goals
   go_wp2_with (go_at_call 132; refine (zjn _ _).mono ?_; rintro e w3 ⟨rfl, rfl⟩)
   go_ret
   exact ⟨⟨_, rfl⟩, zc hB6 b7⟩
set_option maxHeartbeats 4000000 in
theorem zwp (bw cw : Nat) (ws : List Int) (sm toh top : Int) (cyc : Bool) (sn old cp sr : Int) (ar : Option Addr) (cr : Nat) (rs : List (Int × Int)) (br : Nat) (y : Nat -> Int) (vb ob : Nat) (V : Array Value) (w : World) (hV0 : V[0]? = some (.pointer (some ⟨ob, 0, none⟩))) (hv : ∀ i, w.cell? ⟨vb, i, none⟩ = V[i]?) (lv : vb < w.heap.size) (ho : ∀ i, w.cell? ⟨ob, i, none⟩ = (#[.slice (some ⟨bw, 0, none⟩) ws.length cw, .int .i64 sm, .int .i64 toh, .int .i64 top, .bool cyc, .int .i64 sn, .int .i64 old, .int .i64 cp, .int .i64 sr, .slice ar rs.length cr] : Array Value)[i]?) (lo : ob < w.heap.size) (hn2 : rs.length <= 1048576) (hR : zdy w ar br rs.length y) (k j : Nat) (hk : k < rs.length) (hj : j < rs.length) (hV1 : V[1]? = some (.int .i64 (k : Int))) (hV5 : V[5]? = some (.int .i64 (j : Int))) (slot pl t3 m3 T3 C3 : Int) (ws3 : List Int) (hV7 : V[7]? = some (.int .i64 slot)) (hr0 : isR (y (2 * k)) = true) (h40 : y (2 * k) ≠ 4) (HPL : Hid (∀ W, Below w.heap.size w W -> Calls Tryz.prog 133 #[.agg #[.slice (some ⟨bw, 0, none⟩) ws.length cw, .int .i64 sm, .int .i64 toh, .int .i64 top, .bool cyc, .int .i64 sn, .int .i64 old, .int .i64 cp, .int .i64 sr, .slice ar rs.length cr], .int .i64 (y (2 * k + 1)), .int .i64 slot] W fun e w' => e = .returned (.tuple #[.int .i64 pl, .bool true]) /\ Below W.heap.size W w')) (HLD : Hid (∀ W, Below w.heap.size w W -> Calls Tryz.prog 134 #[.pointer (some ⟨ob, 0, none⟩), .int .i64 pl] W fun e w' => e = .returned (.agg #[.int .i64 t3, .int .i64 m3]) /\ w'.rowIs ob 29 10 (fun i => (#[.slice (some ⟨bw, 0, none⟩) ws.length cw, .int .i64 sm, .int .i64 toh, .int .i64 T3, .bool cyc, .int .i64 sn, .int .i64 old, .int .i64 C3, .int .i64 sr, .slice ar rs.length cr] : Array Value).getD i (.bool false)) /\ RwW w' bw ws3 /\ Kp [ob, bw] W w')) (hvw : vb ≠ bw) (hvo : vb ≠ ob) (hvr : vb ≠ br) (hro : br ≠ ob) (hrw : br ≠ bw) :
 Calls Tryz.prog 106 #[.pointer (some ⟨vb, 0, none⟩)] w fun e w' => e = .returned .nilIface /\ w'.rowIs ob 29 10 (fun i => (#[.slice (some ⟨bw, 0, none⟩) ws.length cw, .int .i64 sm, .int .i64 toh, .int .i64 T3, .bool cyc, .int .i64 sn, .int .i64 old, .int .i64 C3, .int .i64 sr, .slice ar rs.length cr] : Array Value).getD i (.bool false)) /\ RwW w' bw ws3 /\ RwR w' br rs.length (fun i => if i = 2 * j then t3 else if i = 2 * j + 1 then m3 else y i) /\ Kp [ob, bw, br] w w' := by
 have h7 : w.cell? ⟨vb, 7, none⟩ = some (.int .i64 slot) := (hv 7).trans hV7
 have HRR : Hid (RwR w br rs.length y) := by
  rcases hR with h | h
  · omega
  · exact h.2
 have HV : Hid (∀ i, w.cell? ⟨vb, i, none⟩ = V[i]?) := hv
 have HO : Hid (∀ i, w.cell? ⟨ob, i, none⟩ = (#[.slice (some ⟨bw, 0, none⟩) ws.length cw, .int .i64 sm, .int .i64 toh, .int .i64 top, .bool cyc, .int .i64 sn, .int .i64 old, .int .i64 cp, .int .i64 sr, .slice ar rs.length cr] : Array Value)[i]?) := ho
 obtain ⟨rfl, hR'⟩ : ar = some ⟨br, 0, none⟩ /\ RwR w br rs.length y := by
  rcases hR with h | h
  · omega
  · exact h
 have lr := hR'.lt
 have q0 : w.cell? ⟨br, k * 2, none⟩ = some (.int .i64 (y (2 * k))) := by rw [Nat.mul_comm]; exact hR'.cell (by omega)
 have q1 : w.cell? ⟨br, k * 2 + 1, none⟩ = some (.int .i64 (y (2 * k + 1))) := by rw [Nat.mul_comm]; exact hR'.cell (by omega)
 have q2 : w.cell? ⟨br, j * 2, none⟩ = some (.int .i64 (y (2 * j))) := by rw [Nat.mul_comm]; exact hR'.cell (by omega)
 have q3 : w.cell? ⟨br, j * 2 + 1, none⟩ = some (.int .i64 (y (2 * j + 1))) := by rw [Nat.mul_comm]; exact hR'.cell (by omega)
 have h0 : w.cell? ⟨vb, 0, none⟩ = some (.pointer (some ⟨ob, 0, none⟩)) := (hv 0).trans hV0
 have h1 : w.cell? ⟨vb, 1, none⟩ = some (.int .i64 (k : Int)) := (hv 1).trans hV1
 have h4 : w.cell? ⟨vb, 5, none⟩ = some (.int .i64 (j : Int)) := (hv 5).trans hV5
 have o0 : w.cell? ⟨ob, 0, none⟩ = some (.slice (some ⟨bw, 0, none⟩) ws.length cw) := ho 0
 have o9 : w.cell? ⟨ob, 9, none⟩ = some (.slice (some ⟨br, 0, none⟩) rs.length cr) := ho 9
 have hk' : (k : Int) < (rs.length : Int) := by omega
 have hj' : (j : Int) < (rs.length : Int) := by omega
 have KC : ∀ W, Below w.heap.size w W -> (Below w.heap.size w W /\ W.cell? ⟨vb, 0, none⟩ = some (.pointer (some ⟨ob, 0, none⟩)) /\ W.cell? ⟨vb, 1, none⟩ = some (.int .i64 (k : Int)) /\ W.cell? ⟨vb, 5, none⟩ = some (.int .i64 (j : Int)) /\ W.cell? ⟨ob, 0, none⟩ = some (.slice (some ⟨bw, 0, none⟩) ws.length cw) /\ W.cell? ⟨ob, 9, none⟩ = some (.slice (some ⟨br, 0, none⟩) rs.length cr) /\ W.cell? ⟨br, k * 2, none⟩ = some (.int .i64 (y (2 * k))) /\ W.cell? ⟨br, k * 2 + 1, none⟩ = some (.int .i64 (y (2 * k + 1))) /\ W.cell? ⟨br, j * 2, none⟩ = some (.int .i64 (y (2 * j))) /\ W.cell? ⟨br, j * 2 + 1, none⟩ = some (.int .i64 (y (2 * j + 1)))) := fun W hW => ⟨hW, by rw [hW.cell (p := ⟨vb, 0, none⟩) lv]; exact h0, by rw [hW.cell (p := ⟨vb, 1, none⟩) lv]; exact h1, by rw [hW.cell (p := ⟨vb, 5, none⟩) lv]; exact h4, by rw [hW.cell (p := ⟨ob, 0, none⟩) lo]; exact o0, by rw [hW.cell (p := ⟨ob, 9, none⟩) lo]; exact o9, by rw [hW.cell (p := ⟨br, k * 2, none⟩) lr]; exact q0, by rw [hW.cell (p := ⟨br, k * 2 + 1, none⟩) lr]; exact q1, by rw [hW.cell (p := ⟨br, j * 2, none⟩) lr]; exact q2, by rw [hW.cell (p := ⟨br, j * 2 + 1, none⟩) lr]; exact q3⟩
 have HWR : Hid (∀ (W : World) (lb cl : Nat), Below w.heap.size w W -> W.cell? ⟨lb, 0, none⟩ = some (.int .i64 (k : Int)) -> W.cell? ⟨lb, 1, none⟩ = some (.int .i64 (j : Int)) -> Calls Tryz.prog 130 #[.pointer (some ⟨vb, 0, none⟩), .slice (some ⟨lb, 0, none⟩) 2 cl] W fun e w' => e = .returned .nilIface /\ Below w.heap.size w w') := fun W lb cl hW c0 c1 => by
  refine (zeu (some ⟨bw, 0, none⟩) cw ws sm toh top cyc sn old cp sr _ cr rs vb ob lb 2 cl V (fun i => if i = 0 then (k : Int) else (j : Int)) W hV0 (zd HV.out hW lv) (Nat.lt_of_lt_of_le lv hW.size) (zd HO.out hW lo) (Nat.lt_of_lt_of_le lo hW.size) (fun i hi => ?_) (World.block_lt_of_cell? _ ⟨lb, 0, none⟩ c0) (by omega) hn2).mono ?_
  · match i with
    | 0 => exact c0
    | 1 => exact c1
  · rintro e w' ⟨h | h, b⟩
    · exact ⟨h.2, zc hW b⟩
    · refine absurd (fun i hi => ?_) h.1
      match i with
      | 0 => simp [zbf]; omega
      | 1 => simp [zbf]; omega
 have b0' := (Below.refl w.heap.size w).drew
 clear hv ho hV0 hR' hR h0 h1 h4 o0 o9 q0 q1 q2 q3
 obtain ⟨t, ht⟩ : ∃ t, t = y (2 * k) := ⟨_, rfl⟩
 obtain ⟨m, hm⟩ : ∃ m, m = y (2 * k + 1) := ⟨_, rfl⟩
 obtain ⟨t2, ht2⟩ : ∃ t, t = y (2 * j) := ⟨_, rfl⟩
 obtain ⟨m2, hm2⟩ : ∃ m, m = y (2 * j + 1) := ⟨_, rfl⟩
 rw [<- ht, <- hm, <- ht2, <- hm2] at KC
 clear hV1 hV5
 rw [<- ht] at hr0 h40
 rw [<- hm] at HPL
 have e4 : (t == 4) = false := by simpa using h40
 clear ht hm ht2 hm2 h40 hV7
 go_enter Tryz.func106, Tryz.ntmps106
 go_upto_region 1 with fail
 go_cut [3] from 7 to 17 (fun s3 wc => s3 = .nilIface /\ Below w.heap.size w wc)
 case first =>
  go_region_held3 (fun W => (Below w.heap.size w W /\ W.cell? ⟨vb, 0, none⟩ = some (.pointer (some ⟨ob, 0, none⟩)) /\ W.cell? ⟨vb, 1, none⟩ = some (.int .i64 (k : Int)) /\ W.cell? ⟨vb, 5, none⟩ = some (.int .i64 (j : Int)) /\ W.cell? ⟨ob, 0, none⟩ = some (.slice (some ⟨bw, 0, none⟩) ws.length cw) /\ W.cell? ⟨ob, 9, none⟩ = some (.slice (some ⟨br, 0, none⟩) rs.length cr) /\ W.cell? ⟨br, k * 2, none⟩ = some (.int .i64 t) /\ W.cell? ⟨br, k * 2 + 1, none⟩ = some (.int .i64 m) /\ W.cell? ⟨br, j * 2, none⟩ = some (.int .i64 t2) /\ W.cell? ⟨br, j * 2 + 1, none⟩ = some (.int .i64 m2))) (first | assumption | exact KC _ b0' | exact KC _ (by assumption) | exact KC _ (zao (And.left (by assumption)) _)) (first | (go_at_call 130; refine (HWR.out _ _ _ (by first | exact zao (And.left (by assumption)) _ | exact And.left (by assumption)) (by simp [go_sem]) (by simp [go_sem])).mono ?_; rintro e w2 ⟨rfl, b2⟩))
  all_goals
   go_wp2_with fail
   go_meet
   exact ⟨rfl, b2⟩
 case rest =>
  obtain ⟨rfl, hBc⟩ := hcut
  have KD := KC _ hBc
  obtain ⟨_, c0, c1, c4, a0, a9, q0, q1, q2, q3⟩ := KD
  have lvc : vb < wc.heap.size := Nat.lt_of_lt_of_le lv hBc.size
  have loc : ob < wc.heap.size := Nat.lt_of_lt_of_le lo hBc.size
  have lrc : br < wc.heap.size := Nat.lt_of_lt_of_le lr hBc.size
  go_upto_region 4 with fail
  go_region
  have hB5 : Below w.heap.size w (wc.alloc (.cells #[.int .i64 t, .int .i64 m] 57)).drew := (zao hBc _).drew
  obtain ⟨w5, hw5⟩ : ∃ V, V = (wc.alloc (.cells #[.int .i64 t, .int .i64 m] 57)).drew := ⟨_, rfl⟩
  have cb : ∀ i, w5.cell? ⟨wc.heap.size, i, none⟩ = (#[.int .i64 t, .int .i64 m] : Array Value)[i]? := fun i => by rw [hw5]; simp [go_sem]
  have lb5 : wc.heap.size < w5.heap.size := by rw [hw5]; simp
  rw [<- hw5] at hB5 ⊢
  clear hw5 c0 c1 c4 a0 a9 q0 q1 q2 q3 HWR
  go_upto_region 7 with (go_at_call 131; refine (zah _ _ _).mono ?_; rw [hr0]; rintro e w6 ⟨rfl, b6⟩; have hB6 := zc hB5 b6; have cb6 := zd cb b6 lb5; have lb6 := Nat.lt_of_lt_of_le lb5 b6.size; clear b6)
  have v0 : w6.cell? ⟨vb, 0, none⟩ = some (.pointer (some ⟨ob, 0, none⟩)) := (KC w6 hB6).2.1
  have v7 : w6.cell? ⟨vb, 7, none⟩ = some (.int .i64 slot) := by rw [hB6.cell (p := ⟨vb, 7, none⟩) lv]; exact h7
  have O6 := zd HO.out hB6 lo
  have m6 : w6.cell? ⟨wc.heap.size, 1, none⟩ = some (.int .i64 m) := cb6 1
  have lv6 : vb < w6.heap.size := Nat.lt_of_lt_of_le lv hB6.size
  have lo6 : ob < w6.heap.size := Nat.lt_of_lt_of_le lo hB6.size
  have KP : ∀ W, Below w6.heap.size w6 W -> (Below w6.heap.size w6 W /\ W.cell? ⟨vb, 0, none⟩ = some (.pointer (some ⟨ob, 0, none⟩)) /\ W.cell? ⟨vb, 7, none⟩ = some (.int .i64 slot) /\ W.cell? ⟨wc.heap.size, 1, none⟩ = some (.int .i64 m) /\ (∀ i, W.cell? ⟨ob, i, none⟩ = (#[.slice (some ⟨bw, 0, none⟩) ws.length cw, .int .i64 sm, .int .i64 toh, .int .i64 top, .bool cyc, .int .i64 sn, .int .i64 old, .int .i64 cp, .int .i64 sr, .slice (some ⟨br, 0, none⟩) rs.length cr] : Array Value)[i]?)) := fun W hW => ⟨hW, by rw [hW.cell (p := ⟨vb, 0, none⟩) lv6]; exact v0, by rw [hW.cell (p := ⟨vb, 7, none⟩) lv6]; exact v7, by rw [hW.cell (p := ⟨wc.heap.size, 1, none⟩) lb6]; exact m6, zd O6 hW lo6⟩
  have b6' := (Below.refl w6.heap.size w6).drew
  have HP6 : Hid (∀ W, Below w6.heap.size w6 W -> Calls Tryz.prog 133 #[.agg #[.slice (some ⟨bw, 0, none⟩) ws.length cw, .int .i64 sm, .int .i64 toh, .int .i64 top, .bool cyc, .int .i64 sn, .int .i64 old, .int .i64 cp, .int .i64 sr, .slice (some ⟨br, 0, none⟩) rs.length cr], .int .i64 m, .int .i64 slot] W fun e w' => e = .returned (.tuple #[.int .i64 pl, .bool true]) /\ Below w6.heap.size w6 w') := fun W hW => (HPL.out W (zc hB6 hW)).mono (fun e w' ⟨h1, h2⟩ => ⟨h1, zc hW h2⟩)
  clear v0 v7 O6 m6 cb cb6 h7 HPL
  obtain ⟨bv, hbv⟩ : ∃ z, z = wc.heap.size := ⟨_, rfl⟩
  rw [<- hbv] at lb6 KP ⊢
  clear hbv
  go_cut [5, 6] from 43 to 58 (fun s5 s6 wc => s5 = .int .i64 pl /\ s6 = .bool true /\ Below w6.heap.size w6 wc)
  case first =>
   go_region_held3 (fun W => (Below w6.heap.size w6 W /\ W.cell? ⟨vb, 0, none⟩ = some (.pointer (some ⟨ob, 0, none⟩)) /\ W.cell? ⟨vb, 7, none⟩ = some (.int .i64 slot) /\ W.cell? ⟨bv, 1, none⟩ = some (.int .i64 m) /\ (∀ i, W.cell? ⟨ob, i, none⟩ = (#[.slice (some ⟨bw, 0, none⟩) ws.length cw, .int .i64 sm, .int .i64 toh, .int .i64 top, .bool cyc, .int .i64 sn, .int .i64 old, .int .i64 cp, .int .i64 sr, .slice (some ⟨br, 0, none⟩) rs.length cr] : Array Value)[i]?))) (first | assumption | exact KP _ b6' | exact KP _ (by assumption)) (first | (go_at_call 133; refine (HP6.out _ (And.left (by first | assumption | exact KP _ b6'))).mono ?_; rintro e w7 ⟨rfl, b7⟩))
   all_goals
    go_wp2_with fail
    go_meet
    exact ⟨rfl, rfl, b7⟩
  case rest =>
   obtain ⟨rfl, rfl, b7⟩ := hcut
   have hB7 : Below w.heap.size w wc := zc hB6 b7
   obtain ⟨_, c0, c1, c4, a0, a9, q0, q1, q2, q3⟩ := KC _ hB7
   have lv7 : vb < wc.heap.size := Nat.lt_of_lt_of_le lv hB7.size
   have lo7 : ob < wc.heap.size := Nat.lt_of_lt_of_le lo hB7.size
   have lr7 : br < wc.heap.size := Nat.lt_of_lt_of_le lr hB7.size
   have bd' := (Below.refl wc.heap.size wc).drew
   have kd' : Kp [ob, bw, br] wc wc.drew := Kp.of_below bd'
   have HR7 : Hid (RwR wc br rs.length y) := Rw.of_block HRR.out (hB7.block _ lr)
   have f2 : wc.drew.frozen? ⟨br, j * 2, none⟩ = false := (Rw.drew HR7.out).frozen _
   have f3 : wc.drew.frozen? ⟨br, j * 2 + 1, none⟩ = false := (Rw.drew HR7.out).frozen _
   have HL7 : Hid (Calls Tryz.prog 134 #[.pointer (some ⟨ob, 0, none⟩), .int .i64 pl] wc.drew fun e w' => e = .returned (.agg #[.int .i64 t3, .int .i64 m3]) /\ w'.rowIs ob 29 10 (fun i => (#[.slice (some ⟨bw, 0, none⟩) ws.length cw, .int .i64 sm, .int .i64 toh, .int .i64 T3, .bool cyc, .int .i64 sn, .int .i64 old, .int .i64 C3, .int .i64 sr, .slice (some ⟨br, 0, none⟩) rs.length cr] : Array Value).getD i (.bool false)) /\ RwW w' bw ws3 /\ (Kp [ob, bw] wc.drew w' /\ Kp [ob, bw, br] wc w') /\ (w'.cell? ⟨vb, 0, none⟩ = some (.pointer (some ⟨ob, 0, none⟩)) /\ w'.cell? ⟨vb, 5, none⟩ = some (.int .i64 (j : Int)) /\ w'.cell? ⟨ob, 9, none⟩ = some (.slice (some ⟨br, 0, none⟩) rs.length cr)) /\ w'.cell? ⟨br, j * 2, none⟩ = some (.int .i64 t2) /\ w'.cell? ⟨br, j * 2 + 1, none⟩ = some (.int .i64 m2) /\ w'.frozen? ⟨br, j * 2, none⟩ = false /\ w'.frozen? ⟨br, j * 2 + 1, none⟩ = false) := (HLD.out _ hB7.drew).mono (fun e w' ⟨h1, h2, h3, h4⟩ => ⟨h1, h2, h3, ⟨h4, kd'.trans (h4.mono (fun x hx => by simp at hx; rcases hx with g | g <;> simp [g]))⟩, ⟨by rw [h4.cell (p := ⟨vb, 0, none⟩) (show vb < wc.heap.size from lv7) (by simp [hvw, hvo])]; exact c0, by rw [h4.cell (p := ⟨vb, 5, none⟩) (show vb < wc.heap.size from lv7) (by simp [hvw, hvo])]; exact c4, zx h2 rfl 9⟩, by rw [h4.cell (p := ⟨br, j * 2, none⟩) (show br < wc.heap.size from lr7) (by simp [hro, hrw])]; exact q2, by rw [h4.cell (p := ⟨br, j * 2 + 1, none⟩) (show br < wc.heap.size from lr7) (by simp [hro, hrw])]; exact q3, by rw [World.frozen?_of_block (h4.block br lr7 (by simp [hro, hrw]))]; exact f2, by rw [World.frozen?_of_block (h4.block br lr7 (by simp [hro, hrw]))]; exact f3⟩)
   have KQ : Kp [ob, bw, br] wc wc.drew /\ wc.drew.cell? ⟨vb, 0, none⟩ = some (.pointer (some ⟨ob, 0, none⟩)) /\ wc.drew.cell? ⟨vb, 5, none⟩ = some (.int .i64 (j : Int)) /\ wc.drew.cell? ⟨ob, 9, none⟩ = some (.slice (some ⟨br, 0, none⟩) rs.length cr) := ⟨kd', c0, c4, a9⟩
   have KS : ∀ (W : World) (u v : Value), (Kp [ob, bw, br] wc W /\ W.cell? ⟨vb, 0, none⟩ = some (.pointer (some ⟨ob, 0, none⟩)) /\ W.cell? ⟨vb, 5, none⟩ = some (.int .i64 (j : Int)) /\ W.cell? ⟨ob, 9, none⟩ = some (.slice (some ⟨br, 0, none⟩) rs.length cr)) -> (Kp [ob, bw, br] wc ((W.setCell ⟨br, j * 2, none⟩ u).setCell ⟨br, j * 2 + 1, none⟩ v) /\ ((W.setCell ⟨br, j * 2, none⟩ u).setCell ⟨br, j * 2 + 1, none⟩ v).cell? ⟨vb, 0, none⟩ = some (.pointer (some ⟨ob, 0, none⟩)) /\ ((W.setCell ⟨br, j * 2, none⟩ u).setCell ⟨br, j * 2 + 1, none⟩ v).cell? ⟨vb, 5, none⟩ = some (.int .i64 (j : Int)) /\ ((W.setCell ⟨br, j * 2, none⟩ u).setCell ⟨br, j * 2 + 1, none⟩ v).cell? ⟨ob, 9, none⟩ = some (.slice (some ⟨br, 0, none⟩) rs.length cr)) := fun W u v ⟨h1, h2, h3, h4⟩ => ⟨(h1.setCell (p := ⟨br, j * 2, none⟩) (.inl (by simp)) u).setCell (p := ⟨br, j * 2 + 1, none⟩) (.inl (by simp)) v, (World.cell?_of_block (w := W) (a := ⟨vb, 0, none⟩) ((Below.heap_setCell _ _ _ _ hvr).trans (Below.heap_setCell _ _ _ _ hvr))).trans h2, (World.cell?_of_block (w := W) (a := ⟨vb, 5, none⟩) ((Below.heap_setCell _ _ _ _ hvr).trans (Below.heap_setCell _ _ _ _ hvr))).trans h3, (World.cell?_of_block (w := W) (a := ⟨ob, 9, none⟩) ((Below.heap_setCell _ _ _ _ hro.symm).trans (Below.heap_setCell _ _ _ _ hro.symm))).trans h4⟩
   clear KC KP HP6 HLD c0 c1 c4 a0 a9 q0 q1 q2 q3 f2 f3 b6'
   go_upto_region 10 with fail
   refine wp_region_held_drew (S := fun W => Kp [ob, bw, br] wc W /\ W.cell? ⟨vb, 0, none⟩ = some (.pointer (some ⟨ob, 0, none⟩)) /\ W.cell? ⟨vb, 5, none⟩ = some (.int .i64 (j : Int)) /\ W.cell? ⟨ob, 9, none⟩ = some (.slice (some ⟨br, 0, none⟩) rs.length cr)) (by kernel_rfl) KQ (fun hHeld => ?_)
   refine tk 0 62 (.pointer (some ⟨vb, 0, none⟩)) hHeld rfl (by intro w hSw; (try dsimp only at hSw); go_simp) ?_
   try simp only [Act.put, zxy, zxz, zx0]
   refine tk 1 63 (.pointer (some ⟨vb, 0, none⟩)) hHeld rfl (by intro w hSw; (try dsimp only at hSw); go_simp) ?_
   try simp only [Act.put, zxy, zxz, zx0]
   refine tk 2 64 (.pointer (some ⟨vb, 0, none⟩)) hHeld rfl (by intro w hSw; (try dsimp only at hSw); go_simp) ?_
   try simp only [Act.put, zxy, zxz, zx0]
   refine tk 3 65 (.pointer (some ⟨ob, 0, none⟩)) hHeld rfl (by intro w hSw; (try dsimp only at hSw); go_simp) ?_
   try simp only [Act.put, zxy, zxz, zx0]
   refine tk 4 66 (.pointer (some ⟨ob, 0, none⟩)) hHeld rfl (by intro w hSw; (try dsimp only at hSw); go_simp) ?_
   try simp only [Act.put, zxy, zxz, zx0]
   refine tk 5 67 (.pointer (some ⟨ob, 9, none⟩)) hHeld rfl (by intro w hSw; (try dsimp only at hSw); go_simp) ?_
   try simp only [Act.put, zxy, zxz, zx0]
   refine tk 6 68 (.slice (some ⟨br, 0, none⟩) rs.length cr) hHeld rfl (by intro w hSw; (try dsimp only at hSw); go_simp) ?_
   try simp only [Act.put, zxy, zxz, zx0]
   refine tk 7 69 (.pointer (some ⟨vb, 0, none⟩)) hHeld rfl (by intro w hSw; (try dsimp only at hSw); go_simp) ?_
   try simp only [Act.put, zxy, zxz, zx0]
   refine tk 8 70 (.pointer (some ⟨vb, 0, none⟩)) hHeld rfl (by intro w hSw; (try dsimp only at hSw); go_simp) ?_
   try simp only [Act.put, zxy, zxz, zx0]
   refine tk 9 71 (.pointer (some ⟨vb, 5, none⟩)) hHeld rfl (by intro w hSw; (try dsimp only at hSw); go_simp) ?_
   try simp only [Act.put, zxy, zxz, zx0]
   refine tk 10 72 (.int .i64 (j : Int)) hHeld rfl (by intro w hSw; (try dsimp only at hSw); go_simp) ?_
   try simp only [Act.put, zxy, zxz, zx0]
   refine tk 11 73 (.pointer (some ⟨vb, 0, none⟩)) hHeld rfl (by intro w hSw; (try dsimp only at hSw); go_simp) ?_
   try simp only [Act.put, zxy, zxz, zx0]
   refine tk 12 74 (.pointer (some ⟨vb, 0, none⟩)) hHeld rfl (by intro w hSw; (try dsimp only at hSw); go_simp) ?_
   try simp only [Act.put, zxy, zxz, zx0]
   refine tk 13 75 (.pointer (some ⟨vb, 0, none⟩)) hHeld rfl (by intro w hSw; (try dsimp only at hSw); go_simp) ?_
   try simp only [Act.put, zxy, zxz, zx0]
   refine tk 14 76 (.pointer (some ⟨ob, 0, none⟩)) hHeld rfl (by intro w hSw; (try dsimp only at hSw); go_simp) ?_
   try simp only [Act.put, zxy, zxz, zx0]
   refine tk 15 77 (.int .i64 pl) hHeld rfl (by intro w hSw; (try dsimp only at hSw); go_simp) ?_
   try simp only [Act.put, zxy, zxz, zx0]
   refine wpAnyH_ready (rs := [16]) (by kernel_rfl) (by simp) ?_
   refine AllReadyH.cons (o := { dst := some 78, op := _, type := _, pos := _, after := _, guard := _ }) rfl (fun K hK => ?_) AllReadyH.nil
   go_simp
   go_at_call 134
   refine (HL7.out).mono ?_
   rintro e w8 ⟨rfl, hA8, hW8, hK8, hS8, g2, g3, f2, f3⟩
   clear hHeld
   refine hK.out _ _ (⟨hK8.2, hS8⟩) (fun hHeld => ?_)
   clear hK K
   try simp only [Act.put, zxy, zxz, zx0]
   refine tk 17 79 (.pointer (some ⟨br, j * 2, none⟩)) hHeld rfl (by intro w hSw; (try dsimp only at hSw); go_simp) ?_
   try simp only [Act.put, zxy, zxz, zx0]
   refine wpAnyH_ready (rs := [18]) (by kernel_rfl) (by simp) ?_
   refine AllReadyH.cons (o := { dst := none, op := _, type := _, pos := _, after := _, guard := _ }) rfl (fun K hK => ?_) AllReadyH.nil
   go_simp
   clear hHeld
   refine hK.out _ _ (KS _ _ _ ⟨hK8.2, hS8⟩) (fun hHeld => ?_)
   clear hK K
   try simp only [Act.put, zxy, zxz, zx0]
   refine wpAnyH_done (by kernel_rfl) ?_ _
   go_wp2
   go_ret
   refine ⟨rfl, ?_, ?_, ?_, ?_⟩
   · exact World.rowIs.of_block hA8 ((Below.heap_setCell _ _ _ _ hro.symm).trans (Below.heap_setCell _ _ _ _ hro.symm))
   · exact Rw.other (Rw.other hW8 hrw.symm _) hrw.symm _
   · have R8 : RwR w8 br rs.length y := Rw.kp (Rw.drew HR7.out) hK8.1 (by simp [hro, hrw])
     refine Rw.congr (Rw.set (Rw.set R8 (j * 2) (.int .i64 t3)) (j * 2 + 1) (.int .i64 m3)) (fun i hi => ?_)
     by_cases e1 : i = j * 2 + 1
     · subst e1; simp; omega
     · by_cases e2 : i = j * 2
       · subst e2; simp; omega
       · simp only [if_neg e1, if_neg e2]; rw [if_neg (by omega), if_neg (by omega)]
   · exact (((Kp.of_below hB7).trans hK8.2).setCell (p := ⟨br, j * 2, none⟩) (.inl (by simp)) _).setCell (p := ⟨br, j * 2 + 1, none⟩) (.inl (by simp)) _
end Go.Proofs.YtdnhohndppmgcaaGreatDoor
