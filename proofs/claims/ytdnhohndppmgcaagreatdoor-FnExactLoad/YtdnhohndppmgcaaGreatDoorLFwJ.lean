/- - -/
import Derived.Test.YtdnhohndppmgcaaGreatDoorLCpC
namespace Go.Proofs.YtdnhohndppmgcaaGreatDoor
set_option maxRecDepth 20000
open Go.RowKit
set_option linter.unusedSimpArgs false
set_option linter.unusedVariables false
theorem zgj {w V : World} {A Z : Array Value} {t m : Int} (h : Below ((((w.alloc (.cells A 29)).alloc (.cells #[.int .i64 t, .int .i64 m] 57)).alloc (.cells Z 29)).alloc (.cells #[.int .i64 0, .int .i64 0] 57)).heap.size ((((w.alloc (.cells A 29)).alloc (.cells #[.int .i64 t, .int .i64 m] 57)).alloc (.cells Z 29)).alloc (.cells #[.int .i64 0, .int .i64 0] 57)) V) (hA : A.size = 10) (hZ : Z.size = 10) :
 (V.rowIs w.heap.size 29 10 (fun i => A.getD i (.bool false)) /\ V.rowIs (w.heap.size + 1) 57 2 (fun i => (#[.int .i64 t, .int .i64 m] : Array Value).getD i (.bool false))) /\ (V.rowIs (w.heap.size + 1 + 1) 29 10 (fun i => Z.getD i (.bool false)) /\ V.rowIs (w.heap.size + 1 + 1 + 1) 57 2 (fun i => (#[.int .i64 0, .int .i64 0] : Array Value).getD i (.bool false))) /\ Below w.heap.size w V /\ w.heap.size + 1 + 1 + 1 < V.heap.size := by
 have hz := h.size
 simp at hz
 have b0 : Below w.heap.size w ((((w.alloc (.cells A 29)).alloc (.cells #[.int .i64 t, .int .i64 m] 57)).alloc (.cells Z 29)).alloc (.cells #[.int .i64 0, .int .i64 0] 57)) := ((((Below.refl _ _).alloc (Nat.le_refl _) _).alloc (by simp) _).alloc (by simp; omega) _).alloc (by simp; omega) _
 refine ⟨⟨⟨A, ?_, hA, fun i hi => by simp [Array.getD, show i < A.size by omega]⟩, ⟨#[.int .i64 t, .int .i64 m], ?_, rfl, fun i hi => by simp [Array.getD, show i < 2 by omega]⟩⟩, ⟨⟨Z, ?_, hZ, fun i hi => by simp [Array.getD, show i < Z.size by omega]⟩, ⟨#[.int .i64 0, .int .i64 0], ?_, rfl, fun i hi => by simp [Array.getD, show i < 2 by omega]⟩⟩, b0.trans (h.mono (by simp; omega)), by omega⟩
 · rw [h.block _ (by simp; omega), Below.heap_alloc _ _ _ (by simp; omega), Below.heap_alloc _ _ _ (by simp; omega), Below.heap_alloc _ _ _ (by simp)]; exact Go.Deep.blk_alloc_new _ _
 · rw [h.block _ (by simp), Below.heap_alloc _ _ _ (by simp), Below.heap_alloc _ _ _ (by simp)]
   have := Go.Deep.blk_alloc_new (w.alloc (.cells A 29)) (.cells #[.int .i64 t, .int .i64 m] 57); simpa using this
 · rw [h.block _ (by simp), Below.heap_alloc _ _ _ (by simp)]
   have := Go.Deep.blk_alloc_new ((w.alloc (.cells A 29)).alloc (.cells #[.int .i64 t, .int .i64 m] 57)) (.cells Z 29); simpa using this
 · rw [h.block _ (by simp)]
   have := Go.Deep.blk_alloc_new (((w.alloc (.cells A 29)).alloc (.cells #[.int .i64 t, .int .i64 m] 57)).alloc (.cells Z 29)) (.cells #[.int .i64 0, .int .i64 0] 57); simpa using this
theorem zgp {W w : World} {k j C : Nat} {c0 c1 c2 c3 c4 c5 c6 c7 c8 c9 u0 u1 : Value} (h : Below C w W) (hk : C <= k) (hj : C <= j) :
 Below C w ((((((((((((W.setCell ⟨k, 0, none⟩ c0).setCell ⟨k, 1, none⟩ c1).setCell ⟨k, 2, none⟩ c2).setCell ⟨k, 3, none⟩ c3).setCell ⟨k, 4, none⟩ c4).setCell ⟨k, 5, none⟩ c5).setCell ⟨k, 6, none⟩ c6).setCell ⟨k, 7, none⟩ c7).setCell ⟨k, 8, none⟩ c8).setCell ⟨k, 9, none⟩ c9).setCell ⟨j, 0, none⟩ u0).setCell ⟨j, 1, none⟩ u1).drew :=
 (((((((((((((h.setCell (p := ⟨k, 0, none⟩) hk _).setCell (p := ⟨k, 1, none⟩) hk _).setCell (p := ⟨k, 2, none⟩) hk _).setCell (p := ⟨k, 3, none⟩) hk _).setCell (p := ⟨k, 4, none⟩) hk _).setCell (p := ⟨k, 5, none⟩) hk _).setCell (p := ⟨k, 6, none⟩) hk _).setCell (p := ⟨k, 7, none⟩) hk _).setCell (p := ⟨k, 8, none⟩) hk _).setCell (p := ⟨k, 9, none⟩) hk _).setCell (p := ⟨j, 0, none⟩) hj _).setCell (p := ⟨j, 1, none⟩) hj _).drew)
theorem zpl {W : World} {k j : Nat} {c0 c1 c2 c3 c4 c5 c6 c7 c8 c9 u0 u1 : Value} {x : Nat} (hk : x ≠ k) (hj : x ≠ j) :
 ((((((((((((W.setCell ⟨k, 0, none⟩ c0).setCell ⟨k, 1, none⟩ c1).setCell ⟨k, 2, none⟩ c2).setCell ⟨k, 3, none⟩ c3).setCell ⟨k, 4, none⟩ c4).setCell ⟨k, 5, none⟩ c5).setCell ⟨k, 6, none⟩ c6).setCell ⟨k, 7, none⟩ c7).setCell ⟨k, 8, none⟩ c8).setCell ⟨k, 9, none⟩ c9).setCell ⟨j, 0, none⟩ u0).setCell ⟨j, 1, none⟩ u1).heap[x]? = W.heap[x]? :=
 (Below.heap_setCell _ _ _ x hj).trans ((Below.heap_setCell _ _ _ x hj).trans ((Below.heap_setCell _ _ _ x hk).trans ((Below.heap_setCell _ _ _ x hk).trans ((Below.heap_setCell _ _ _ x hk).trans ((Below.heap_setCell _ _ _ x hk).trans ((Below.heap_setCell _ _ _ x hk).trans ((Below.heap_setCell _ _ _ x hk).trans ((Below.heap_setCell _ _ _ x hk).trans ((Below.heap_setCell _ _ _ x hk).trans ((Below.heap_setCell _ _ _ x hk).trans (Below.heap_setCell _ _ _ x hk)))))))))))
theorem zvl {W w : World} {X : List Nat} {k j : Nat} {c0 c1 c2 c3 c4 c5 c6 c7 c8 c9 u0 u1 : Value} (h : Kp X w W) (hk' : w.heap.size <= k) (hj' : w.heap.size <= j) :
 Kp X w ((((((((((((W.setCell ⟨k, 0, none⟩ c0).setCell ⟨k, 1, none⟩ c1).setCell ⟨k, 2, none⟩ c2).setCell ⟨k, 3, none⟩ c3).setCell ⟨k, 4, none⟩ c4).setCell ⟨k, 5, none⟩ c5).setCell ⟨k, 6, none⟩ c6).setCell ⟨k, 7, none⟩ c7).setCell ⟨k, 8, none⟩ c8).setCell ⟨k, 9, none⟩ c9).setCell ⟨j, 0, none⟩ u0).setCell ⟨j, 1, none⟩ u1).drew :=
 (((((((((((((h.setCell (p := ⟨k, 0, none⟩) (.inr hk') _).setCell (p := ⟨k, 1, none⟩) (.inr hk') _).setCell (p := ⟨k, 2, none⟩) (.inr hk') _).setCell (p := ⟨k, 3, none⟩) (.inr hk') _).setCell (p := ⟨k, 4, none⟩) (.inr hk') _).setCell (p := ⟨k, 5, none⟩) (.inr hk') _).setCell (p := ⟨k, 6, none⟩) (.inr hk') _).setCell (p := ⟨k, 7, none⟩) (.inr hk') _).setCell (p := ⟨k, 8, none⟩) (.inr hk') _).setCell (p := ⟨k, 9, none⟩) (.inr hk') _).setCell (p := ⟨j, 0, none⟩) (.inr hj') _).setCell (p := ⟨j, 1, none⟩) (.inr hj') _).drew)
theorem zvm {W : World} {b : Nat} {t : TypeId} {A : Array Value} {n : Nat} (h : W.rowIs b t n (fun i => A.getD i (.bool false))) (hA : A.size = n) (hc : ∀ i, n <= i -> W.cell? ⟨b, i, none⟩ = none) : ∀ i, W.cell? ⟨b, i, none⟩ = A[i]? := fun i => by
 by_cases hi : i < n
 · rw [h.cell hi]; simp [Array.getD, show i < A.size by omega]
 · rw [hc i (by omega)]; simp; omega
theorem zx {W : World} {b : Nat} {t : TypeId} {A : Array Value} {n : Nat} (h : W.rowIs b t n (fun i => A.getD i (.bool false))) (hA : A.size = n) : ∀ i, W.cell? ⟨b, i, none⟩ = A[i]? := by
 refine zvm h hA fun i hi => ?_
 obtain ⟨c, hb, hn, _⟩ := h
 simp [World.cell?, hb]
 omega
set_option maxHeartbeats 2000000 in
theorem zn3 (bw cw : Nat) (ws : List Int) (sm toh : Int) (T : Nat) (cyc : Bool) (sn old : Int) (C : Nat) (sr : Int) (ar : Option Addr) (cr : Nat) (rs : List (Int × Int)) (t m : Int) (w : World) (ht : isR t = false) :
 Calls Tryz.prog 75 #[.agg #[.slice (some ⟨bw, 0, none⟩) ws.length cw, .int .i64 sm, .int .i64 toh, .int .i64 (T : Int), .bool cyc, .int .i64 sn, .int .i64 old, .int .i64 (C : Int), .int .i64 sr, .slice ar rs.length cr], .agg #[.int .i64 t, .int .i64 m]] w fun e w' => e = .returned (.tuple #[.agg #[.slice (some ⟨bw, 0, none⟩) ws.length cw, .int .i64 sm, .int .i64 toh, .int .i64 (T : Int), .bool cyc, .int .i64 sn, .int .i64 old, .int .i64 (C : Int), .int .i64 sr, .slice ar rs.length cr], .agg #[.int .i64 t, .int .i64 m]]) /\ Below w.heap.size w w' := by
 obtain ⟨w0, hw0⟩ : ∃ V, V = ((((w.alloc (.cells #[.slice (some ⟨bw, 0, none⟩) ws.length cw, .int .i64 sm, .int .i64 toh, .int .i64 (T : Int), .bool cyc, .int .i64 sn, .int .i64 old, .int .i64 (C : Int), .int .i64 sr, .slice ar rs.length cr] 29)).alloc (.cells #[.int .i64 t, .int .i64 m] 57)).alloc (.cells #[.slice none 0 0, .int .i64 0, .int .i64 0, .int .i64 0, .bool false, .int .i64 0, .int .i64 0, .int .i64 0, .int .i64 0, .slice none 0 0] 29)).alloc (.cells #[.int .i64 0, .int .i64 0] 57)) := ⟨_, rfl⟩
 have H4 : ∀ V, Below w0.heap.size w0 V -> _ := fun V hV => zgj (w := w) (V := V) (A := #[.slice (some ⟨bw, 0, none⟩) ws.length cw, .int .i64 sm, .int .i64 toh, .int .i64 (T : Int), .bool cyc, .int .i64 sn, .int .i64 old, .int .i64 (C : Int), .int .i64 sr, .slice ar rs.length cr]) (Z := #[.slice none 0 0, .int .i64 0, .int .i64 0, .int .i64 0, .bool false, .int .i64 0, .int .i64 0, .int .i64 0, .int .i64 0, .slice none 0 0]) (t := t) (m := m) (by rw [<- hw0]; exact hV) rfl rfl
 have KP : ∀ V, Below w0.heap.size w0 V -> (Below w0.heap.size w0 V /\ (∀ i, V.cell? ⟨w.heap.size, i, none⟩ = (#[.slice (some ⟨bw, 0, none⟩) ws.length cw, .int .i64 sm, .int .i64 toh, .int .i64 (T : Int), .bool cyc, .int .i64 sn, .int .i64 old, .int .i64 (C : Int), .int .i64 sr, .slice ar rs.length cr] : Array Value)[i]?) /\ (∀ i, V.cell? ⟨w.heap.size + 1, i, none⟩ = (#[.int .i64 t, .int .i64 m] : Array Value)[i]?)) := fun V hV => ⟨hV, zx (H4 V hV).1.1 rfl, zx (H4 V hV).1.2 rfl⟩
 have bd' := (Below.refl w0.heap.size w0).drew
 go_enter Tryz.func75, Tryz.ntmps75
 go_wp2_with fail
 rw [<- hw0]
 clear hw0
 refine wp_region_held_drew (S := fun V => Below w0.heap.size w0 V /\ (∀ i, V.cell? ⟨w.heap.size, i, none⟩ = (#[.slice (some ⟨bw, 0, none⟩) ws.length cw, .int .i64 sm, .int .i64 toh, .int .i64 (T : Int), .bool cyc, .int .i64 sn, .int .i64 old, .int .i64 (C : Int), .int .i64 sr, .slice ar rs.length cr] : Array Value)[i]?) /\ (∀ i, V.cell? ⟨w.heap.size + 1, i, none⟩ = (#[.int .i64 t, .int .i64 m] : Array Value)[i]?)) (by kernel_rfl) (KP _ bd') (fun hHeld => ?_)
 refine tk 0 10 (.agg #[.int .i64 t, .int .i64 m]) hHeld rfl (by intro w hSw; (try dsimp only at hSw); go_simp) ?_
 try simp only [Act.put, zxy, zxz, zx0]
 refine wpAnyH_ready (rs := [1]) (by kernel_rfl) (by simp) ?_
 refine AllReadyH.cons (o := { dst := some 11, op := _, type := _, pos := _, after := _, guard := _ }) rfl (fun K hK => ?_) AllReadyH.nil
 go_simp
 go_at_call 40
 refine (zal _ _ _).mono ?_
 rw [ht]
 rintro e w1 ⟨rfl, hb1⟩
 have hB1 := zc (w := w0) hHeld.1 hb1
 clear hb1
 clear hHeld
 refine hK.out _ _ (KP _ hB1) (fun hHeld => ?_)
 clear hK K
 try simp only [Act.put, zxy, zxz, zx0]
 refine tk 2 12 (.bool true) hHeld rfl (by intro w hSw; (try dsimp only at hSw); go_simp) ?_
 try simp only [Act.put, zxy, zxz, zx0]
 refine tk 3 13 (.bool true) hHeld rfl (by intro w hSw; (try dsimp only at hSw); go_simp) ?_
 try simp only [Act.put, zxy, zxz, zx0]
 refine wpAnyH_take (i := 4) (oi := { dst := some 14, op := _, type := _, pos := _, after := _, guard := _ }) (v := undef) rfl (by kernel_rfl) (by kernel_rfl) (by kernel_rfl) (fun _ _ _ h => h) (Or.inr ⟨by kernel_rfl, rfl⟩) hHeld ?_
 try simp only [Act.put, zxy, zxz, zx0]
 refine wpAnyH_take (i := 5) (oi := { dst := some 15, op := _, type := _, pos := _, after := _, guard := _ }) (v := undef) rfl (by kernel_rfl) (by kernel_rfl) (by kernel_rfl) (fun _ _ _ h => h) (Or.inr ⟨by kernel_rfl, rfl⟩) hHeld ?_
 try simp only [Act.put, zxy, zxz, zx0]
 refine wpAnyH_take (i := 6) (oi := { dst := some 16, op := _, type := _, pos := _, after := _, guard := _ }) (v := undef) rfl (by kernel_rfl) (by kernel_rfl) (by kernel_rfl) (fun _ _ _ h => h) (Or.inr ⟨by kernel_rfl, rfl⟩) hHeld ?_
 try simp only [Act.put, zxy, zxz, zx0]
 refine wpAnyH_take (i := 7) (oi := { dst := some 17, op := _, type := _, pos := _, after := _, guard := _ }) (v := undef) rfl (by kernel_rfl) (by kernel_rfl) (by kernel_rfl) (fun _ _ _ h => h) (Or.inr ⟨by kernel_rfl, rfl⟩) hHeld ?_
 try simp only [Act.put, zxy, zxz, zx0]
 refine wpAnyH_take (i := 8) (oi := { dst := some 18, op := _, type := _, pos := _, after := _, guard := _ }) (v := undef) rfl (by kernel_rfl) (by kernel_rfl) (by kernel_rfl) (fun _ _ _ h => h) (Or.inr ⟨by kernel_rfl, rfl⟩) hHeld ?_
 try simp only [Act.put, zxy, zxz, zx0]
 refine wpAnyH_take (i := 9) (oi := { dst := some 19, op := _, type := _, pos := _, after := _, guard := _ }) (v := undef) rfl (by kernel_rfl) (by kernel_rfl) (by kernel_rfl) (fun _ _ _ h => h) (Or.inr ⟨by kernel_rfl, rfl⟩) hHeld ?_
 try simp only [Act.put, zxy, zxz, zx0]
 refine wpAnyH_take (i := 10) (oi := { dst := some 20, op := _, type := _, pos := _, after := _, guard := _ }) (v := undef) rfl (by kernel_rfl) (by kernel_rfl) (by kernel_rfl) (fun _ _ _ h => h) (Or.inr ⟨by kernel_rfl, rfl⟩) hHeld ?_
 try simp only [Act.put, zxy, zxz, zx0]
 refine wpAnyH_take (i := 11) (oi := { dst := some 21, op := _, type := _, pos := _, after := _, guard := _ }) (v := undef) rfl (by kernel_rfl) (by kernel_rfl) (by kernel_rfl) (fun _ _ _ h => h) (Or.inr ⟨by kernel_rfl, rfl⟩) hHeld ?_
 try simp only [Act.put, zxy, zxz, zx0]
 refine tk 12 22 (.bool true) hHeld rfl (by intro w hSw; (try dsimp only at hSw); go_simp) ?_
 try simp only [Act.put, zxy, zxz, zx0]
 refine wpAnyH_done (by kernel_rfl) ?_ _
 obtain ⟨⟨RA, RV⟩, ⟨RX, RY⟩, B1, z1⟩ := H4 _ hHeld.1
 have KA := hHeld.2.1
 have KV := hHeld.2.2
 clear hHeld H4 KP bd'
 clear RA RV
 obtain ⟨d0, d1, d2, d3, d4, d5, d6, d7, d8, d9⟩ := zd2 RX rfl rfl rfl rfl rfl rfl rfl rfl rfl rfl
 simp at d0 d1 d2 d3 d4 d5 d6 d7 d8 d9
 have y0 := RY.cell (i := 0) (by omega)
 have y1 := RY.cell (i := 1) (by omega)
 simp at y0 y1
 have fx := RX.frozen
 have fy := RY.frozen
 have RX' : Hid _ := RX
 have RY' : Hid _ := RY
 clear RX RY
 have KA' : Hid _ := KA
 go_wp2
 go_region
 go_wp2
 have p0 : (w1.cell? ⟨w.heap.size + 1 + 1, 0, none⟩).isSome = true := by rw [d0]; rfl
 have p1 : (w1.cell? ⟨w.heap.size + 1 + 1, 1, none⟩).isSome = true := by rw [d1]; rfl
 have p2 : (w1.cell? ⟨w.heap.size + 1 + 1, 2, none⟩).isSome = true := by rw [d2]; rfl
 have p3 : (w1.cell? ⟨w.heap.size + 1 + 1, 3, none⟩).isSome = true := by rw [d3]; rfl
 have p4 : (w1.cell? ⟨w.heap.size + 1 + 1, 4, none⟩).isSome = true := by rw [d4]; rfl
 have p5 : (w1.cell? ⟨w.heap.size + 1 + 1, 5, none⟩).isSome = true := by rw [d5]; rfl
 have p6 : (w1.cell? ⟨w.heap.size + 1 + 1, 6, none⟩).isSome = true := by rw [d6]; rfl
 have p7 : (w1.cell? ⟨w.heap.size + 1 + 1, 7, none⟩).isSome = true := by rw [d7]; rfl
 have p8 : (w1.cell? ⟨w.heap.size + 1 + 1, 8, none⟩).isSome = true := by rw [d8]; rfl
 have p9 : (w1.cell? ⟨w.heap.size + 1 + 1, 9, none⟩).isSome = true := by rw [d9]; rfl
 have q0 : (w1.cell? ⟨w.heap.size + 1 + 1 + 1, 0, none⟩).isSome = true := by rw [y0]; rfl
 have q1 : (w1.cell? ⟨w.heap.size + 1 + 1 + 1, 1, none⟩).isSome = true := by rw [y1]; rfl
 refine bodyPost_ret (v := .tuple #[.agg #[.slice (some ⟨bw, 0, none⟩) ws.length cw, .int .i64 sm, .int .i64 toh, .int .i64 (T : Int), .bool cyc, .int .i64 sn, .int .i64 old, .int .i64 (C : Int), .int .i64 sr, .slice ar rs.length cr], .agg #[.int .i64 t, .int .i64 m]]) (by simp [results, Tryz.results75, go_sem, p0, p1, p2, p3, p4, p5, p6, p7, p8, p9, q0, q1]) rfl ⟨rfl, ?_⟩
 exact zgp B1 (by omega) (by omega)
set_option maxHeartbeats 2000000 in
theorem zn4 (bw cw : Nat) (ws : List Int) (sm toh : Int) (T : Nat) (cyc : Bool) (sn old : Int) (C : Nat) (sr : Int) (ar : Option Addr) (cr : Nat) (rs : List (Int × Int)) (t m : Int) (w : World) (d : Int) (ht : isR t = true) (s0 : 256 <= sm) (s1 : sm <= 4000) (m0 : 0 <= m) (m1 : m <= 1048576) (hd : m.tdiv sm = d) (d0 : 0 <= d) (d1 : d <= 1) (hq : (d == toh) = true) :
 Calls Tryz.prog 75 #[.agg #[.slice (some ⟨bw, 0, none⟩) ws.length cw, .int .i64 sm, .int .i64 toh, .int .i64 (T : Int), .bool cyc, .int .i64 sn, .int .i64 old, .int .i64 (C : Int), .int .i64 sr, .slice ar rs.length cr], .agg #[.int .i64 t, .int .i64 m]] w fun e w' => e = .returned (.tuple #[.agg #[.slice (some ⟨bw, 0, none⟩) ws.length cw, .int .i64 sm, .int .i64 toh, .int .i64 (T : Int), .bool cyc, .int .i64 sn, .int .i64 old, .int .i64 (C : Int), .int .i64 sr, .slice ar rs.length cr], .agg #[.int .i64 t, .int .i64 m]]) /\ Below w.heap.size w w' := by
 obtain ⟨w0, hw0⟩ : ∃ V, V = ((((w.alloc (.cells #[.slice (some ⟨bw, 0, none⟩) ws.length cw, .int .i64 sm, .int .i64 toh, .int .i64 (T : Int), .bool cyc, .int .i64 sn, .int .i64 old, .int .i64 (C : Int), .int .i64 sr, .slice ar rs.length cr] 29)).alloc (.cells #[.int .i64 t, .int .i64 m] 57)).alloc (.cells #[.slice none 0 0, .int .i64 0, .int .i64 0, .int .i64 0, .bool false, .int .i64 0, .int .i64 0, .int .i64 0, .int .i64 0, .slice none 0 0] 29)).alloc (.cells #[.int .i64 0, .int .i64 0] 57)) := ⟨_, rfl⟩
 have H4 : ∀ V, Below w0.heap.size w0 V -> _ := fun V hV => zgj (w := w) (V := V) (A := #[.slice (some ⟨bw, 0, none⟩) ws.length cw, .int .i64 sm, .int .i64 toh, .int .i64 (T : Int), .bool cyc, .int .i64 sn, .int .i64 old, .int .i64 (C : Int), .int .i64 sr, .slice ar rs.length cr]) (Z := #[.slice none 0 0, .int .i64 0, .int .i64 0, .int .i64 0, .bool false, .int .i64 0, .int .i64 0, .int .i64 0, .int .i64 0, .slice none 0 0]) (t := t) (m := m) (by rw [<- hw0]; exact hV) rfl rfl
 have KP : ∀ V, Below w0.heap.size w0 V -> (Below w0.heap.size w0 V /\ (∀ i, V.cell? ⟨w.heap.size, i, none⟩ = (#[.slice (some ⟨bw, 0, none⟩) ws.length cw, .int .i64 sm, .int .i64 toh, .int .i64 (T : Int), .bool cyc, .int .i64 sn, .int .i64 old, .int .i64 (C : Int), .int .i64 sr, .slice ar rs.length cr] : Array Value)[i]?) /\ (∀ i, V.cell? ⟨w.heap.size + 1, i, none⟩ = (#[.int .i64 t, .int .i64 m] : Array Value)[i]?)) := fun V hV => ⟨hV, zx (H4 V hV).1.1 rfl, zx (H4 V hV).1.2 rfl⟩
 have bd' := (Below.refl w0.heap.size w0).drew
 have hs0 : ¬ sm = 0 := by omega
 have hdw : IntKind.i64.wrap d = d := by rw [IntKind.wrap_i64]; omega
 go_enter Tryz.func75, Tryz.ntmps75
 go_wp2_with fail
 rw [<- hw0]
 clear hw0
 refine wp_region_held_drew (S := fun V => Below w0.heap.size w0 V /\ (∀ i, V.cell? ⟨w.heap.size, i, none⟩ = (#[.slice (some ⟨bw, 0, none⟩) ws.length cw, .int .i64 sm, .int .i64 toh, .int .i64 (T : Int), .bool cyc, .int .i64 sn, .int .i64 old, .int .i64 (C : Int), .int .i64 sr, .slice ar rs.length cr] : Array Value)[i]?) /\ (∀ i, V.cell? ⟨w.heap.size + 1, i, none⟩ = (#[.int .i64 t, .int .i64 m] : Array Value)[i]?)) (by kernel_rfl) (KP _ bd') (fun hHeld => ?_)
 refine tk 0 10 (.agg #[.int .i64 t, .int .i64 m]) hHeld rfl (by intro w hSw; (try dsimp only at hSw); go_simp) ?_
 try simp only [Act.put, zxy, zxz, zx0]
 refine wpAnyH_ready (rs := [1]) (by kernel_rfl) (by simp) ?_
 refine AllReadyH.cons (o := { dst := some 11, op := _, type := _, pos := _, after := _, guard := _ }) rfl (fun K hK => ?_) AllReadyH.nil
 go_simp
 go_at_call 40
 refine (zal _ _ _).mono ?_
 rw [ht]
 rintro e w1 ⟨rfl, hb1⟩
 have hB1 := zc (w := w0) hHeld.1 hb1
 clear hb1
 clear hHeld
 refine hK.out _ _ (KP _ hB1) (fun hHeld => ?_)
 clear hK K
 try simp only [Act.put, zxy, zxz, zx0]
 refine tk 2 12 (.bool false) hHeld rfl (by intro w hSw; (try dsimp only at hSw); go_simp) ?_
 try simp only [Act.put, zxy, zxz, zx0]
 refine tk 3 13 (.bool false) hHeld rfl (by intro w hSw; (try dsimp only at hSw); go_simp) ?_
 try simp only [Act.put, zxy, zxz, zx0]
 refine tk 4 14 (.pointer (some ⟨w.heap.size + 1, 1, none⟩)) hHeld rfl (by intro w hSw; (try dsimp only at hSw); go_simp) ?_
 try simp only [Act.put, zxy, zxz, zx0]
 refine tk 5 15 (.int .i64 m) hHeld rfl (by intro w hSw; (try dsimp only at hSw); go_simp) ?_
 try simp only [Act.put, zxy, zxz, zx0]
 refine tk 6 16 (.pointer (some ⟨w.heap.size, 1, none⟩)) hHeld rfl (by intro w hSw; (try dsimp only at hSw); go_simp) ?_
 try simp only [Act.put, zxy, zxz, zx0]
 refine tk 7 17 (.int .i64 sm) hHeld rfl (by intro w hSw; (try dsimp only at hSw); go_simp) ?_
 try simp only [Act.put, zxy, zxz, zx0]
 refine tk 8 18 (.int .i64 d) hHeld rfl (by intro w hSw; (try dsimp only at hSw); go_simp) ?_
 try simp only [Act.put, zxy, zxz, zx0]
 refine tk 9 19 (.pointer (some ⟨w.heap.size, 2, none⟩)) hHeld rfl (by intro w hSw; (try dsimp only at hSw); go_simp) ?_
 try simp only [Act.put, zxy, zxz, zx0]
 refine tk 10 20 (.int .i64 toh) hHeld rfl (by intro w hSw; (try dsimp only at hSw); go_simp) ?_
 try simp only [Act.put, zxy, zxz, zx0]
 refine tk 11 21 (.bool true) hHeld rfl (by intro w hSw; (try dsimp only at hSw); go_simp) ?_
 try simp only [Act.put, zxy, zxz, zx0]
 refine tk 12 22 (.bool true) hHeld rfl (by intro w hSw; (try dsimp only at hSw); go_simp) ?_
 try simp only [Act.put, zxy, zxz, zx0]
 refine wpAnyH_done (by kernel_rfl) ?_ _
 obtain ⟨⟨RA, RV⟩, ⟨RX, RY⟩, B1, z1⟩ := H4 _ hHeld.1
 have KA := hHeld.2.1
 have KV := hHeld.2.2
 clear hHeld H4 KP bd'
 clear RA RV
 obtain ⟨d0, d1, d2, d3, d4, d5, d6, d7, d8, d9⟩ := zd2 RX rfl rfl rfl rfl rfl rfl rfl rfl rfl rfl
 simp at d0 d1 d2 d3 d4 d5 d6 d7 d8 d9
 have y0 := RY.cell (i := 0) (by omega)
 have y1 := RY.cell (i := 1) (by omega)
 simp at y0 y1
 have fx := RX.frozen
 have fy := RY.frozen
 have RX' : Hid _ := RX
 have RY' : Hid _ := RY
 clear RX RY
 have KA' : Hid _ := KA
 go_wp2
 go_region
 go_wp2
 have p0 : (w1.cell? ⟨w.heap.size + 1 + 1, 0, none⟩).isSome = true := by rw [d0]; rfl
 have p1 : (w1.cell? ⟨w.heap.size + 1 + 1, 1, none⟩).isSome = true := by rw [d1]; rfl
 have p2 : (w1.cell? ⟨w.heap.size + 1 + 1, 2, none⟩).isSome = true := by rw [d2]; rfl
 have p3 : (w1.cell? ⟨w.heap.size + 1 + 1, 3, none⟩).isSome = true := by rw [d3]; rfl
 have p4 : (w1.cell? ⟨w.heap.size + 1 + 1, 4, none⟩).isSome = true := by rw [d4]; rfl
 have p5 : (w1.cell? ⟨w.heap.size + 1 + 1, 5, none⟩).isSome = true := by rw [d5]; rfl
 have p6 : (w1.cell? ⟨w.heap.size + 1 + 1, 6, none⟩).isSome = true := by rw [d6]; rfl
 have p7 : (w1.cell? ⟨w.heap.size + 1 + 1, 7, none⟩).isSome = true := by rw [d7]; rfl
 have p8 : (w1.cell? ⟨w.heap.size + 1 + 1, 8, none⟩).isSome = true := by rw [d8]; rfl
 have p9 : (w1.cell? ⟨w.heap.size + 1 + 1, 9, none⟩).isSome = true := by rw [d9]; rfl
 have q0 : (w1.cell? ⟨w.heap.size + 1 + 1 + 1, 0, none⟩).isSome = true := by rw [y0]; rfl
 have q1 : (w1.cell? ⟨w.heap.size + 1 + 1 + 1, 1, none⟩).isSome = true := by rw [y1]; rfl
 refine bodyPost_ret (v := .tuple #[.agg #[.slice (some ⟨bw, 0, none⟩) ws.length cw, .int .i64 sm, .int .i64 toh, .int .i64 (T : Int), .bool cyc, .int .i64 sn, .int .i64 old, .int .i64 (C : Int), .int .i64 sr, .slice ar rs.length cr], .agg #[.int .i64 t, .int .i64 m]]) (by simp [results, Tryz.results75, go_sem, p0, p1, p2, p3, p4, p5, p6, p7, p8, p9, q0, q1]) rfl ⟨rfl, ?_⟩
 exact zgp B1 (by omega) (by omega)
set_option maxHeartbeats 2000000 in
theorem zk0 (bw cw : Nat) (ws : List Int) (sm toh : Int) (T : Nat) (cyc : Bool) (sn old : Int) (C : Nat) (sr : Int) (ar : Option Addr) (cr : Nat) (rs : List (Int × Int)) (t : Int) (p : Nat) (w : World) (d : Int) (ht : isR t = true) (s0 : 256 <= sm) (s1 : sm <= 4000) (hd : (p : Int).tdiv sm = d) (d0 : 0 <= d) (d1 : d <= 1) (hq : (d == toh) = false) (hW : RwW w bw ws) (hn : ws.length <= 1048576) (hw : zg ws) (hp : p < ws.length) (hf : zbe (za ws p) = true) :
 Calls Tryz.prog 75 #[.agg #[.slice (some ⟨bw, 0, none⟩) ws.length cw, .int .i64 sm, .int .i64 toh, .int .i64 (T : Int), .bool cyc, .int .i64 sn, .int .i64 old, .int .i64 (C : Int), .int .i64 sr, .slice ar rs.length cr], .agg #[.int .i64 t, .int .i64 (p : Int)]] w fun e w' => e = .returned (.tuple #[.agg #[.slice (some ⟨bw, 0, none⟩) ws.length cw, .int .i64 sm, .int .i64 toh, .int .i64 (T : Int), .bool cyc, .int .i64 sn, .int .i64 old, .int .i64 (C : Int), .int .i64 sr, .slice ar rs.length cr], .agg #[.int .i64 t, .int .i64 (fwP (za ws p))]]) /\ Below w.heap.size w w' := by
 have HW : Hid (RwW w bw ws) := hW
 have hx := zv hw p
 have hp' : (p : Int) < (ws.length : Int) := by omega
 clear hW
 obtain ⟨w0, hw0⟩ : ∃ V, V = ((((w.alloc (.cells #[.slice (some ⟨bw, 0, none⟩) ws.length cw, .int .i64 sm, .int .i64 toh, .int .i64 (T : Int), .bool cyc, .int .i64 sn, .int .i64 old, .int .i64 (C : Int), .int .i64 sr, .slice ar rs.length cr] 29)).alloc (.cells #[.int .i64 t, .int .i64 (p : Int)] 57)).alloc (.cells #[.slice none 0 0, .int .i64 0, .int .i64 0, .int .i64 0, .bool false, .int .i64 0, .int .i64 0, .int .i64 0, .int .i64 0, .slice none 0 0] 29)).alloc (.cells #[.int .i64 0, .int .i64 0] 57)) := ⟨_, rfl⟩
 have H4 : ∀ V, Below w0.heap.size w0 V -> _ := fun V hV => zgj (w := w) (V := V) (A := #[.slice (some ⟨bw, 0, none⟩) ws.length cw, .int .i64 sm, .int .i64 toh, .int .i64 (T : Int), .bool cyc, .int .i64 sn, .int .i64 old, .int .i64 (C : Int), .int .i64 sr, .slice ar rs.length cr]) (Z := #[.slice none 0 0, .int .i64 0, .int .i64 0, .int .i64 0, .bool false, .int .i64 0, .int .i64 0, .int .i64 0, .int .i64 0, .slice none 0 0]) (t := t) (m := (p : Int)) (by rw [<- hw0]; exact hV) rfl rfl
 have KP : ∀ V, Below w0.heap.size w0 V -> (Below w0.heap.size w0 V /\ (∀ i, V.cell? ⟨w.heap.size, i, none⟩ = (#[.slice (some ⟨bw, 0, none⟩) ws.length cw, .int .i64 sm, .int .i64 toh, .int .i64 (T : Int), .bool cyc, .int .i64 sn, .int .i64 old, .int .i64 (C : Int), .int .i64 sr, .slice ar rs.length cr] : Array Value)[i]?) /\ (∀ i, V.cell? ⟨w.heap.size + 1, i, none⟩ = (#[.int .i64 t, .int .i64 (p : Int)] : Array Value)[i]?)) := fun V hV => ⟨hV, zx (H4 V hV).1.1 rfl, zx (H4 V hV).1.2 rfl⟩
 have bd' := (Below.refl w0.heap.size w0).drew
 have hs0 : ¬ sm = 0 := by omega
 have hdw : IntKind.i64.wrap d = d := by rw [IntKind.wrap_i64]; omega
 go_enter Tryz.func75, Tryz.ntmps75
 go_wp2_with fail
 rw [<- hw0]
 clear hw0
 refine wp_region_held_drew (S := fun V => Below w0.heap.size w0 V /\ (∀ i, V.cell? ⟨w.heap.size, i, none⟩ = (#[.slice (some ⟨bw, 0, none⟩) ws.length cw, .int .i64 sm, .int .i64 toh, .int .i64 (T : Int), .bool cyc, .int .i64 sn, .int .i64 old, .int .i64 (C : Int), .int .i64 sr, .slice ar rs.length cr] : Array Value)[i]?) /\ (∀ i, V.cell? ⟨w.heap.size + 1, i, none⟩ = (#[.int .i64 t, .int .i64 (p : Int)] : Array Value)[i]?)) (by kernel_rfl) (KP _ bd') (fun hHeld => ?_)
 refine tk 0 10 (.agg #[.int .i64 t, .int .i64 (p : Int)]) hHeld rfl (by intro w hSw; (try dsimp only at hSw); go_simp) ?_
 try simp only [Act.put, zxy, zxz, zx0]
 refine wpAnyH_ready (rs := [1]) (by kernel_rfl) (by simp) ?_
 refine AllReadyH.cons (o := { dst := some 11, op := _, type := _, pos := _, after := _, guard := _ }) rfl (fun K hK => ?_) AllReadyH.nil
 go_simp
 go_at_call 40
 refine (zal _ _ _).mono ?_
 rw [ht]
 rintro e w1 ⟨rfl, hb1⟩
 have hB1 := zc (w := w0) hHeld.1 hb1
 clear hb1
 clear hHeld
 refine hK.out _ _ (KP _ hB1) (fun hHeld => ?_)
 clear hK K
 try simp only [Act.put, zxy, zxz, zx0]
 refine tk 2 12 (.bool false) hHeld rfl (by intro w hSw; (try dsimp only at hSw); go_simp) ?_
 try simp only [Act.put, zxy, zxz, zx0]
 refine tk 3 13 (.bool false) hHeld rfl (by intro w hSw; (try dsimp only at hSw); go_simp) ?_
 try simp only [Act.put, zxy, zxz, zx0]
 refine tk 4 14 (.pointer (some ⟨w.heap.size + 1, 1, none⟩)) hHeld rfl (by intro w hSw; (try dsimp only at hSw); go_simp) ?_
 try simp only [Act.put, zxy, zxz, zx0]
 refine tk 5 15 (.int .i64 (p : Int)) hHeld rfl (by intro w hSw; (try dsimp only at hSw); go_simp) ?_
 try simp only [Act.put, zxy, zxz, zx0]
 refine tk 6 16 (.pointer (some ⟨w.heap.size, 1, none⟩)) hHeld rfl (by intro w hSw; (try dsimp only at hSw); go_simp) ?_
 try simp only [Act.put, zxy, zxz, zx0]
 refine tk 7 17 (.int .i64 sm) hHeld rfl (by intro w hSw; (try dsimp only at hSw); go_simp) ?_
 try simp only [Act.put, zxy, zxz, zx0]
 refine tk 8 18 (.int .i64 d) hHeld rfl (by intro w hSw; (try dsimp only at hSw); go_simp) ?_
 try simp only [Act.put, zxy, zxz, zx0]
 refine tk 9 19 (.pointer (some ⟨w.heap.size, 2, none⟩)) hHeld rfl (by intro w hSw; (try dsimp only at hSw); go_simp) ?_
 try simp only [Act.put, zxy, zxz, zx0]
 refine tk 10 20 (.int .i64 toh) hHeld rfl (by intro w hSw; (try dsimp only at hSw); go_simp) ?_
 try simp only [Act.put, zxy, zxz, zx0]
 refine tk 11 21 (.bool false) hHeld rfl (by intro w hSw; (try dsimp only at hSw); go_simp) ?_
 try simp only [Act.put, zxy, zxz, zx0]
 refine tk 12 22 (.bool false) hHeld rfl (by intro w hSw; (try dsimp only at hSw); go_simp) ?_
 try simp only [Act.put, zxy, zxz, zx0]
 refine wpAnyH_done (by kernel_rfl) ?_ _
 obtain ⟨⟨RA, RV⟩, ⟨RX, RY⟩, B1, z1⟩ := H4 _ hHeld.1
 have KA := hHeld.2.1
 have KV := hHeld.2.2
 clear hHeld H4 KP bd'
 have HW1 : Hid (RwW w1 bw ws) := Rw.below HW.out B1
 have x0 := HW1.out.cell hp
 have HRA : Hid (w1.rowIs w.heap.size 29 10 (fun i => (#[.slice (some ⟨bw, 0, none⟩) ws.length cw, .int .i64 sm, .int .i64 toh, .int .i64 (T : Int), .bool cyc, .int .i64 sn, .int .i64 old, .int .i64 (C : Int), .int .i64 sr, .slice ar rs.length cr] : Array Value).getD i (.bool false))) := RA
 have HRV : Hid (w1.rowIs (w.heap.size + 1) 57 2 (fun i => (#[.int .i64 t, .int .i64 (p : Int)] : Array Value).getD i (.bool false))) := RV
 have HRX : Hid (w1.rowIs (w.heap.size + 1 + 1) 29 10 (fun i => (#[.slice none 0 0, .int .i64 0, .int .i64 0, .int .i64 0, .bool false, .int .i64 0, .int .i64 0, .int .i64 0, .int .i64 0, .slice none 0 0] : Array Value).getD i (.bool false))) := RX
 have HRY : Hid (w1.rowIs (w.heap.size + 1 + 1 + 1) 57 2 (fun i => (#[.int .i64 0, .int .i64 0] : Array Value).getD i (.bool false))) := RY
 have fv := RV.frozen
 clear RA RV RX RY
 go_wp2_with fail
 refine (za8 _ _ hx.1 hx.2).mono ?_
 rintro e w2 ⟨rfl, rfl⟩
 rw [hf]
 clear KA KV
 have KA := zx HRA.out rfl
 have KV := zx HRV.out rfl
 go_wp2
 obtain ⟨W, hW⟩ : ∃ V, V = w2.setCell ⟨w.heap.size + 1, 1, none⟩ (.int .i64 (fwP (za ws p))) := ⟨_, rfl⟩
 rw [<- hW]
 clear KA KV
 have KA : ∀ i, W.cell? ⟨w.heap.size, i, none⟩ = (#[.slice (some ⟨bw, 0, none⟩) ws.length cw, .int .i64 sm, .int .i64 toh, .int .i64 (T : Int), .bool cyc, .int .i64 sn, .int .i64 old, .int .i64 (C : Int), .int .i64 sr, .slice ar rs.length cr] : Array Value)[i]? := by rw [hW]; exact zx (HRA.out.setOther (by show w.heap.size ≠ w.heap.size + 1; omega) _) rfl
 have KV : ∀ i, W.cell? ⟨w.heap.size + 1, i, none⟩ = (#[.int .i64 t, .int .i64 (fwP (za ws p))] : Array Value)[i]? := by
  rw [hW]
  refine zx (n := 2) ((HRV.out.set 1 _).congr fun i hi => ?_) rfl
  have hi2 : i = 0 \/ i = 1 := by omega
  rcases hi2 with rfl | rfl <;> simp
 have RX : W.rowIs (w.heap.size + 1 + 1) 29 10 (fun i => (#[.slice none 0 0, .int .i64 0, .int .i64 0, .int .i64 0, .bool false, .int .i64 0, .int .i64 0, .int .i64 0, .int .i64 0, .slice none 0 0] : Array Value).getD i (.bool false)) := by rw [hW]; exact HRX.out.setOther (by show w.heap.size + 1 + 1 ≠ w.heap.size + 1; omega) _
 have RY : W.rowIs (w.heap.size + 1 + 1 + 1) 57 2 (fun i => (#[.int .i64 0, .int .i64 0] : Array Value).getD i (.bool false)) := by rw [hW]; exact HRY.out.setOther (by show w.heap.size + 1 + 1 + 1 ≠ w.heap.size + 1; omega) _
 have B2 : Below w.heap.size w W := by rw [hW]; exact B1.setCell (p := ⟨w.heap.size + 1, 1, none⟩) (by show w.heap.size <= w.heap.size + 1; omega) _
 have z2 : w.heap.size + 1 + 1 + 1 < W.heap.size := by rw [hW]; simpa using z1
 clear hW HRA HRV HRX HRY x0 HW1 fv
 obtain ⟨d0, d1, d2, d3, d4, d5, d6, d7, d8, d9⟩ := zd2 RX rfl rfl rfl rfl rfl rfl rfl rfl rfl rfl
 simp at d0 d1 d2 d3 d4 d5 d6 d7 d8 d9
 have y0 := RY.cell (i := 0) (by omega)
 have y1 := RY.cell (i := 1) (by omega)
 simp at y0 y1
 have fx := RX.frozen
 have fy := RY.frozen
 have RX' : Hid _ := RX
 have RY' : Hid _ := RY
 clear RX RY
 have KA' : Hid _ := KA
 go_wp2
 go_region
 go_wp2
 have p0 : (W.cell? ⟨w.heap.size + 1 + 1, 0, none⟩).isSome = true := by rw [d0]; rfl
 have p1 : (W.cell? ⟨w.heap.size + 1 + 1, 1, none⟩).isSome = true := by rw [d1]; rfl
 have p2 : (W.cell? ⟨w.heap.size + 1 + 1, 2, none⟩).isSome = true := by rw [d2]; rfl
 have p3 : (W.cell? ⟨w.heap.size + 1 + 1, 3, none⟩).isSome = true := by rw [d3]; rfl
 have p4 : (W.cell? ⟨w.heap.size + 1 + 1, 4, none⟩).isSome = true := by rw [d4]; rfl
 have p5 : (W.cell? ⟨w.heap.size + 1 + 1, 5, none⟩).isSome = true := by rw [d5]; rfl
 have p6 : (W.cell? ⟨w.heap.size + 1 + 1, 6, none⟩).isSome = true := by rw [d6]; rfl
 have p7 : (W.cell? ⟨w.heap.size + 1 + 1, 7, none⟩).isSome = true := by rw [d7]; rfl
 have p8 : (W.cell? ⟨w.heap.size + 1 + 1, 8, none⟩).isSome = true := by rw [d8]; rfl
 have p9 : (W.cell? ⟨w.heap.size + 1 + 1, 9, none⟩).isSome = true := by rw [d9]; rfl
 have q0 : (W.cell? ⟨w.heap.size + 1 + 1 + 1, 0, none⟩).isSome = true := by rw [y0]; rfl
 have q1 : (W.cell? ⟨w.heap.size + 1 + 1 + 1, 1, none⟩).isSome = true := by rw [y1]; rfl
 refine bodyPost_ret (v := .tuple #[.agg #[.slice (some ⟨bw, 0, none⟩) ws.length cw, .int .i64 sm, .int .i64 toh, .int .i64 (T : Int), .bool cyc, .int .i64 sn, .int .i64 old, .int .i64 (C : Int), .int .i64 sr, .slice ar rs.length cr], .agg #[.int .i64 t, .int .i64 (fwP (za ws p))]]) (by simp [results, Tryz.results75, go_sem, p0, p1, p2, p3, p4, p5, p6, p7, p8, p9, q0, q1]) rfl ⟨rfl, ?_⟩
 exact zgp B2 (by omega) (by omega)
set_option maxHeartbeats 2000000 in
theorem zk1 (bw cw : Nat) (ws : List Int) (sm toh : Int) (T : Nat) (cyc : Bool) (sn old : Int) (C : Nat) (sr : Int) (ar : Option Addr) (cr : Nat) (rs : List (Int × Int)) (t : Int) (p : Nat) (w : World) (d : Int) (ht : isR t = true) (s0 : 256 <= sm) (s1 : sm <= 4000) (hd : (p : Int).tdiv sm = d) (d0 : 0 <= d) (d1 : d <= 1) (hq : (d == toh) = false) (hW : RwW w bw ws) (hn : ws.length <= 1048576) (hw : zg ws) (hp : p < ws.length) (hf : zbe (za ws p) = false) (n : Nat) (hnn : szA ws p = n) (hpn : p + n <= ws.length) (hTn : T + n <= ws.length) (hdis : p + n <= T \/ T + n <= p) (hC : C <= 1048576) :
 Calls Tryz.prog 75 #[.agg #[.slice (some ⟨bw, 0, none⟩) ws.length cw, .int .i64 sm, .int .i64 toh, .int .i64 (T : Int), .bool cyc, .int .i64 sn, .int .i64 old, .int .i64 (C : Int), .int .i64 sr, .slice ar rs.length cr], .agg #[.int .i64 t, .int .i64 (p : Int)]] w fun e w' => e = .returned (.tuple #[.agg #[.slice (some ⟨bw, 0, none⟩) ws.length cw, .int .i64 sm, .int .i64 toh, .int .i64 ((T : Int) + n), .bool cyc, .int .i64 sn, .int .i64 old, .int .i64 ((C : Int) + n), .int .i64 sr, .slice ar rs.length cr], .agg #[.int .i64 t, .int .i64 (T : Int)]]) /\ RwW w' bw (mvW ws p T n) /\ Kp [bw] w w' := by
 have HW : Hid (RwW w bw ws) := hW
 have hx := zv hw p
 have hp' : (p : Int) < (ws.length : Int) := by omega
 clear hW
 obtain ⟨w0, hw0⟩ : ∃ V, V = ((((w.alloc (.cells #[.slice (some ⟨bw, 0, none⟩) ws.length cw, .int .i64 sm, .int .i64 toh, .int .i64 (T : Int), .bool cyc, .int .i64 sn, .int .i64 old, .int .i64 (C : Int), .int .i64 sr, .slice ar rs.length cr] 29)).alloc (.cells #[.int .i64 t, .int .i64 (p : Int)] 57)).alloc (.cells #[.slice none 0 0, .int .i64 0, .int .i64 0, .int .i64 0, .bool false, .int .i64 0, .int .i64 0, .int .i64 0, .int .i64 0, .slice none 0 0] 29)).alloc (.cells #[.int .i64 0, .int .i64 0] 57)) := ⟨_, rfl⟩
 have H4 : ∀ V, Below w0.heap.size w0 V -> _ := fun V hV => zgj (w := w) (V := V) (A := #[.slice (some ⟨bw, 0, none⟩) ws.length cw, .int .i64 sm, .int .i64 toh, .int .i64 (T : Int), .bool cyc, .int .i64 sn, .int .i64 old, .int .i64 (C : Int), .int .i64 sr, .slice ar rs.length cr]) (Z := #[.slice none 0 0, .int .i64 0, .int .i64 0, .int .i64 0, .bool false, .int .i64 0, .int .i64 0, .int .i64 0, .int .i64 0, .slice none 0 0]) (t := t) (m := (p : Int)) (by rw [<- hw0]; exact hV) rfl rfl
 have KP : ∀ V, Below w0.heap.size w0 V -> (Below w0.heap.size w0 V /\ (∀ i, V.cell? ⟨w.heap.size, i, none⟩ = (#[.slice (some ⟨bw, 0, none⟩) ws.length cw, .int .i64 sm, .int .i64 toh, .int .i64 (T : Int), .bool cyc, .int .i64 sn, .int .i64 old, .int .i64 (C : Int), .int .i64 sr, .slice ar rs.length cr] : Array Value)[i]?) /\ (∀ i, V.cell? ⟨w.heap.size + 1, i, none⟩ = (#[.int .i64 t, .int .i64 (p : Int)] : Array Value)[i]?)) := fun V hV => ⟨hV, zx (H4 V hV).1.1 rfl, zx (H4 V hV).1.2 rfl⟩
 have bd' := (Below.refl w0.heap.size w0).drew
 have hs0 : ¬ sm = 0 := by omega
 have hdw : IntKind.i64.wrap d = d := by rw [IntKind.wrap_i64]; omega
 go_enter Tryz.func75, Tryz.ntmps75
 go_wp2_with fail
 rw [<- hw0]
 clear hw0
 refine wp_region_held_drew (S := fun V => Below w0.heap.size w0 V /\ (∀ i, V.cell? ⟨w.heap.size, i, none⟩ = (#[.slice (some ⟨bw, 0, none⟩) ws.length cw, .int .i64 sm, .int .i64 toh, .int .i64 (T : Int), .bool cyc, .int .i64 sn, .int .i64 old, .int .i64 (C : Int), .int .i64 sr, .slice ar rs.length cr] : Array Value)[i]?) /\ (∀ i, V.cell? ⟨w.heap.size + 1, i, none⟩ = (#[.int .i64 t, .int .i64 (p : Int)] : Array Value)[i]?)) (by kernel_rfl) (KP _ bd') (fun hHeld => ?_)
 refine tk 0 10 (.agg #[.int .i64 t, .int .i64 (p : Int)]) hHeld rfl (by intro w hSw; (try dsimp only at hSw); go_simp) ?_
 try simp only [Act.put, zxy, zxz, zx0]
 refine wpAnyH_ready (rs := [1]) (by kernel_rfl) (by simp) ?_
 refine AllReadyH.cons (o := { dst := some 11, op := _, type := _, pos := _, after := _, guard := _ }) rfl (fun K hK => ?_) AllReadyH.nil
 go_simp
 go_at_call 40
 refine (zal _ _ _).mono ?_
 rw [ht]
 rintro e w1 ⟨rfl, hb1⟩
 have hB1 := zc (w := w0) hHeld.1 hb1
 clear hb1
 clear hHeld
 refine hK.out _ _ (KP _ hB1) (fun hHeld => ?_)
 clear hK K
 try simp only [Act.put, zxy, zxz, zx0]
 refine tk 2 12 (.bool false) hHeld rfl (by intro w hSw; (try dsimp only at hSw); go_simp) ?_
 try simp only [Act.put, zxy, zxz, zx0]
 refine tk 3 13 (.bool false) hHeld rfl (by intro w hSw; (try dsimp only at hSw); go_simp) ?_
 try simp only [Act.put, zxy, zxz, zx0]
 refine tk 4 14 (.pointer (some ⟨w.heap.size + 1, 1, none⟩)) hHeld rfl (by intro w hSw; (try dsimp only at hSw); go_simp) ?_
 try simp only [Act.put, zxy, zxz, zx0]
 refine tk 5 15 (.int .i64 (p : Int)) hHeld rfl (by intro w hSw; (try dsimp only at hSw); go_simp) ?_
 try simp only [Act.put, zxy, zxz, zx0]
 refine tk 6 16 (.pointer (some ⟨w.heap.size, 1, none⟩)) hHeld rfl (by intro w hSw; (try dsimp only at hSw); go_simp) ?_
 try simp only [Act.put, zxy, zxz, zx0]
 refine tk 7 17 (.int .i64 sm) hHeld rfl (by intro w hSw; (try dsimp only at hSw); go_simp) ?_
 try simp only [Act.put, zxy, zxz, zx0]
 refine tk 8 18 (.int .i64 d) hHeld rfl (by intro w hSw; (try dsimp only at hSw); go_simp) ?_
 try simp only [Act.put, zxy, zxz, zx0]
 refine tk 9 19 (.pointer (some ⟨w.heap.size, 2, none⟩)) hHeld rfl (by intro w hSw; (try dsimp only at hSw); go_simp) ?_
 try simp only [Act.put, zxy, zxz, zx0]
 refine tk 10 20 (.int .i64 toh) hHeld rfl (by intro w hSw; (try dsimp only at hSw); go_simp) ?_
 try simp only [Act.put, zxy, zxz, zx0]
 refine tk 11 21 (.bool false) hHeld rfl (by intro w hSw; (try dsimp only at hSw); go_simp) ?_
 try simp only [Act.put, zxy, zxz, zx0]
 refine tk 12 22 (.bool false) hHeld rfl (by intro w hSw; (try dsimp only at hSw); go_simp) ?_
 try simp only [Act.put, zxy, zxz, zx0]
 refine wpAnyH_done (by kernel_rfl) ?_ _
 obtain ⟨⟨RA, RV⟩, ⟨RX, RY⟩, B1, z1⟩ := H4 _ hHeld.1
 have KA := hHeld.2.1
 have KV := hHeld.2.2
 clear hHeld H4 KP bd'
 have HW1 : Hid (RwW w1 bw ws) := Rw.below HW.out B1
 have x0 := HW1.out.cell hp
 have HRA : Hid (w1.rowIs w.heap.size 29 10 (fun i => (#[.slice (some ⟨bw, 0, none⟩) ws.length cw, .int .i64 sm, .int .i64 toh, .int .i64 (T : Int), .bool cyc, .int .i64 sn, .int .i64 old, .int .i64 (C : Int), .int .i64 sr, .slice ar rs.length cr] : Array Value).getD i (.bool false))) := RA
 have HRV : Hid (w1.rowIs (w.heap.size + 1) 57 2 (fun i => (#[.int .i64 t, .int .i64 (p : Int)] : Array Value).getD i (.bool false))) := RV
 have HRX : Hid (w1.rowIs (w.heap.size + 1 + 1) 29 10 (fun i => (#[.slice none 0 0, .int .i64 0, .int .i64 0, .int .i64 0, .bool false, .int .i64 0, .int .i64 0, .int .i64 0, .int .i64 0, .slice none 0 0] : Array Value).getD i (.bool false))) := RX
 have HRY : Hid (w1.rowIs (w.heap.size + 1 + 1 + 1) 57 2 (fun i => (#[.int .i64 0, .int .i64 0] : Array Value).getD i (.bool false))) := RY
 have fv := RV.frozen
 clear RA RV RX RY
 go_wp2_with fail
 refine (za8 _ _ hx.1 hx.2).mono ?_
 rintro e w2 ⟨rfl, rfl⟩
 rw [hf]
 clear KA KV
 have KA := zx HRA.out rfl
 have KV := zx HRV.out rfl
 have hsz : (rdS (za ws p)) + 1 = (n : Int) := by rw [<- hnn]; unfold szA; have := za1 (za ws p); omega
 go_wp2_with fail
 refine (zjw _ _ _ _ _ _ _ _ _ _ _ _ _ _ p _ (HW1.out.sl cw) hn hw hp).mono ?_
 rintro e w3 ⟨rfl, b3⟩
 have fz := zex
 have HRA3 : Hid (w3.rowIs w.heap.size 29 10 (fun i => (#[.slice (some ⟨bw, 0, none⟩) ws.length cw, .int .i64 sm, .int .i64 toh, .int .i64 (T : Int), .bool cyc, .int .i64 sn, .int .i64 old, .int .i64 (C : Int), .int .i64 sr, .slice ar rs.length cr] : Array Value).getD i (.bool false))) := HRA.out.of_block (b3.block _ HRA.out.lt)
 have HRV3 : Hid (w3.rowIs (w.heap.size + 1) 57 2 (fun i => (#[.int .i64 t, .int .i64 (p : Int)] : Array Value).getD i (.bool false))) := HRV.out.of_block (b3.block _ HRV.out.lt)
 have HRX3 : Hid (w3.rowIs (w.heap.size + 1 + 1) 29 10 (fun i => (#[.slice none 0 0, .int .i64 0, .int .i64 0, .int .i64 0, .bool false, .int .i64 0, .int .i64 0, .int .i64 0, .int .i64 0, .slice none 0 0] : Array Value).getD i (.bool false))) := HRX.out.of_block (b3.block _ HRX.out.lt)
 have HRY3 : Hid (w3.rowIs (w.heap.size + 1 + 1 + 1) 57 2 (fun i => (#[.int .i64 0, .int .i64 0] : Array Value).getD i (.bool false))) := HRY.out.of_block (b3.block _ HRY.out.lt)
 have HW3 : Hid (RwW w3 bw ws) := Rw.below HW1.out b3
 have B3 : Below w.heap.size w w3 := zc B1 b3
 have z3 : w.heap.size + 1 + 1 + 1 < w3.heap.size := Nat.lt_of_lt_of_le z1 b3.size
 clear KA KV x0 fv b3 HRA HRV HRX HRY HW1 B1 z1
 have KA := zx HRA3.out rfl
 have KV := zx HRV3.out rfl
 have hbw : bw < w.heap.size := HW.out.lt
 have hn' : (ws.length : Int) <= 1048576 := by omega
 have hTn' : (T : Int) + n <= (ws.length : Int) := by omega
 have hpn' : (p : Int) + n <= (ws.length : Int) := by omega
 go_wp2
 clear hd hdw
 go_loopw [9] (fun u9 wr => ∃ k : Nat, k <= n /\ u9 = .int .i64 k /\ RwW wr bw (cpW ws p T k) /\ Kp [bw] w3 wr) (fun u9 _ => n - (intOf u9).toNat)
 case atStart => exact ⟨0, Nat.zero_le _, rfl, by rw [zvi]; exact HW3.out, Kp.refl _ _⟩
 case round =>
  obtain ⟨k, hk, rfl, hR, hK⟩ := hrel
  have KAr := Kp.has KA hK (by omega) (by simp; omega)
  have KVr := Kp.has KV hK (by omega) (by simp; omega)
  have lcp := zbk ws p T k
  by_cases hlt : k < n
  · have hlt' : (k : Int) < (n : Int) := by omega
    have e1 : za (cpW ws p T k) (p + k) = za ws (p + k) := by rw [zgd (by omega), if_neg (by omega)]
    have c1 : wr.cell? ⟨bw, p + k, none⟩ = some (.int .u64 (za ws (p + k))) := by rw [<- e1]; exact hR.cell (by rw [lcp]; omega)
    have c2 := hR.cell (i := T + k) (by rw [lcp]; omega)
    have f2 := hR.frozen (T + k)
    have i1 : ((p : Int) + (k : Int)).toNat = p + k := by omega
    have i2 : ((T : Int) + (k : Int)).toNat = T + k := by omega
    have HR : Hid (RwW wr bw (cpW ws p T k)) := hR
    have HK : Hid (Kp [bw] w3 wr) := hK
    clear hR hK KA KV lcp
    go_wp2
    go_region
    go_wp2
    refine ⟨⟨k + 1, hlt, by go_num, ?_, (HK.out.setCell (p := ⟨bw, T + k, none⟩) (.inl (by simp)) _).drew⟩, by simp [intOf]; omega⟩
    rw [<- zvj (by omega) (by omega) (by omega), e1]
    exact Rw.drew (HR.out.set _ (by rw [zbk]; omega))
  · obtain rfl : k = n := by omega
    have hge : ¬ (k : Int) < (k : Int) := by omega
    have hor := zvy (q := T) (by omega)
    have hTw : IntKind.u64.wrap (T : Int) = (T : Int) := by rw [IntKind.wrap_u64]; omega
    have c1 := hR.cell (i := p) (by rw [lcp]; omega)
    have f1 := hR.frozen p
    have HRAr : Hid (wr.rowIs w.heap.size 29 10 (fun i => (#[.slice (some ⟨bw, 0, none⟩) ws.length cw, .int .i64 sm, .int .i64 toh, .int .i64 (T : Int), .bool cyc, .int .i64 sn, .int .i64 old, .int .i64 (C : Int), .int .i64 sr, .slice ar rs.length cr] : Array Value).getD i (.bool false))) := HRA3.out.of_block (hK.block _ HRA3.out.lt (by simp; omega))
    have HRVr : Hid (wr.rowIs (w.heap.size + 1) 57 2 (fun i => (#[.int .i64 t, .int .i64 (p : Int)] : Array Value).getD i (.bool false))) := HRV3.out.of_block (hK.block _ HRV3.out.lt (by simp; omega))
    have HRXr : Hid (wr.rowIs (w.heap.size + 1 + 1) 29 10 (fun i => (#[.slice none 0 0, .int .i64 0, .int .i64 0, .int .i64 0, .bool false, .int .i64 0, .int .i64 0, .int .i64 0, .int .i64 0, .slice none 0 0] : Array Value).getD i (.bool false))) := HRX3.out.of_block (hK.block _ HRX3.out.lt (by simp; omega))
    have HRYr : Hid (wr.rowIs (w.heap.size + 1 + 1 + 1) 57 2 (fun i => (#[.int .i64 0, .int .i64 0] : Array Value).getD i (.bool false))) := HRY3.out.of_block (hK.block _ HRY3.out.lt (by simp; omega))
    have HR : Hid (RwW wr bw (cpW ws p T k)) := hR
    have HK : Hid (Kp [bw] w3 wr) := hK
    have fa := HRAr.out.frozen
    have fv := HRVr.out.frozen
    clear hR hK KA KV lcp HRA3 HRV3 HRX3 HRY3
    go_wp2
    obtain ⟨W, hW⟩ : ∃ V, V = (((wr.setCell ⟨bw, p, none⟩ (.int .u64 (9223372036854775808 + (T : Int)))).setCell ⟨w.heap.size, 3, none⟩ (.int .i64 ((T : Int) + k))).setCell ⟨w.heap.size, 7, none⟩ (.int .i64 ((C : Int) + k))).setCell ⟨w.heap.size + 1, 1, none⟩ (.int .i64 (T : Int)) := ⟨_, rfl⟩
    rw [<- hW]
    have nb : ∀ x, w.heap.size <= x -> x ≠ bw := fun x hx => by omega
    have KA : ∀ i, W.cell? ⟨w.heap.size, i, none⟩ = (#[.slice (some ⟨bw, 0, none⟩) ws.length cw, .int .i64 sm, .int .i64 toh, .int .i64 ((T : Int) + k), .bool cyc, .int .i64 sn, .int .i64 old, .int .i64 ((C : Int) + k), .int .i64 sr, .slice ar rs.length cr] : Array Value)[i]? := by
     rw [hW]
     refine zx (n := 10) ((((((HRAr.out.setOther (a := ⟨bw, p, none⟩) (nb _ (Nat.le_refl _)) _).set 3 _).set 7 _).setOther (a := ⟨w.heap.size + 1, 1, none⟩) (by show w.heap.size ≠ w.heap.size + 1; omega) _)).congr fun i hi => ?_) rfl
     have hi2 : i = 0 \/ i = 1 \/ i = 2 \/ i = 3 \/ i = 4 \/ i = 5 \/ i = 6 \/ i = 7 \/ i = 8 \/ i = 9 := by omega
     rcases hi2 with rfl | rfl | rfl | rfl | rfl | rfl | rfl | rfl | rfl | rfl <;> simp
    have KV : ∀ i, W.cell? ⟨w.heap.size + 1, i, none⟩ = (#[.int .i64 t, .int .i64 (T : Int)] : Array Value)[i]? := by
     rw [hW]
     refine zx (n := 2) (((((HRVr.out.setOther (a := ⟨bw, p, none⟩) (nb _ (by omega)) _).setOther (a := ⟨w.heap.size, 3, none⟩) (by show w.heap.size + 1 ≠ w.heap.size; omega) _).setOther (a := ⟨w.heap.size, 7, none⟩) (by show w.heap.size + 1 ≠ w.heap.size; omega) _).set 1 _).congr fun i hi => ?_) rfl
     have hi2 : i = 0 \/ i = 1 := by omega
     rcases hi2 with rfl | rfl <;> simp
    have RX : W.rowIs (w.heap.size + 1 + 1) 29 10 (fun i => (#[.slice none 0 0, .int .i64 0, .int .i64 0, .int .i64 0, .bool false, .int .i64 0, .int .i64 0, .int .i64 0, .int .i64 0, .slice none 0 0] : Array Value).getD i (.bool false)) := by
     rw [hW]
     exact (((HRXr.out.setOther (a := ⟨bw, p, none⟩) (nb _ (by omega)) _).setOther (a := ⟨w.heap.size, 3, none⟩) (by show w.heap.size + 1 + 1 ≠ w.heap.size; omega) _).setOther (a := ⟨w.heap.size, 7, none⟩) (by show w.heap.size + 1 + 1 ≠ w.heap.size; omega) _).setOther (a := ⟨w.heap.size + 1, 1, none⟩) (by show w.heap.size + 1 + 1 ≠ w.heap.size + 1; omega) _
    have RY : W.rowIs (w.heap.size + 1 + 1 + 1) 57 2 (fun i => (#[.int .i64 0, .int .i64 0] : Array Value).getD i (.bool false)) := by
     rw [hW]
     exact (((HRYr.out.setOther (a := ⟨bw, p, none⟩) (nb _ (by omega)) _).setOther (a := ⟨w.heap.size, 3, none⟩) (by show w.heap.size + 1 + 1 + 1 ≠ w.heap.size; omega) _).setOther (a := ⟨w.heap.size, 7, none⟩) (by show w.heap.size + 1 + 1 + 1 ≠ w.heap.size; omega) _).setOther (a := ⟨w.heap.size + 1, 1, none⟩) (by show w.heap.size + 1 + 1 + 1 ≠ w.heap.size + 1; omega) _
    have HWf : Hid (RwW W bw (mvW ws p T k)) := by
     show RwW W bw (mvW ws p T k)
     rw [hW, <- znz hp]
     exact Rw.other (Rw.other (Rw.other (HR.out.set _ (by rw [zbk]; omega)) (nb w.heap.size (Nat.le_refl _)).symm _) (nb w.heap.size (Nat.le_refl _)).symm _) (nb (w.heap.size + 1) (by omega)).symm _
    have HKf : Hid (Kp [bw] w W) := by
     show Kp [bw] w W
     rw [hW]
     exact (((((Kp.of_below B3).trans HK.out).setCell (p := ⟨bw, p, none⟩) (.inl (by simp)) _).setCell (p := ⟨w.heap.size, 3, none⟩) (.inr (Nat.le_refl _)) _).setCell (p := ⟨w.heap.size, 7, none⟩) (.inr (Nat.le_refl _)) _).setCell (p := ⟨w.heap.size + 1, 1, none⟩) (.inr (Nat.le_succ _)) _
    clear hW HRAr HRVr HRXr HRYr HR HK c1 f1 fa fv
    obtain ⟨d0, d1, d2, d3, d4, d5, d6, d7, d8, d9⟩ := zd2 RX rfl rfl rfl rfl rfl rfl rfl rfl rfl rfl
    simp at d0 d1 d2 d3 d4 d5 d6 d7 d8 d9
    have y0 := RY.cell (i := 0) (by omega)
    have y1 := RY.cell (i := 1) (by omega)
    simp at y0 y1
    have fx := RX.frozen
    have fy := RY.frozen
    have RX' : Hid _ := RX
    have RY' : Hid _ := RY
    clear RX RY
    have KA' : Hid _ := KA
    go_wp2
    go_region
    go_wp2
    have p0 : (W.cell? ⟨w.heap.size + 1 + 1, 0, none⟩).isSome = true := by rw [d0]; rfl
    have p1 : (W.cell? ⟨w.heap.size + 1 + 1, 1, none⟩).isSome = true := by rw [d1]; rfl
    have p2 : (W.cell? ⟨w.heap.size + 1 + 1, 2, none⟩).isSome = true := by rw [d2]; rfl
    have p3 : (W.cell? ⟨w.heap.size + 1 + 1, 3, none⟩).isSome = true := by rw [d3]; rfl
    have p4 : (W.cell? ⟨w.heap.size + 1 + 1, 4, none⟩).isSome = true := by rw [d4]; rfl
    have p5 : (W.cell? ⟨w.heap.size + 1 + 1, 5, none⟩).isSome = true := by rw [d5]; rfl
    have p6 : (W.cell? ⟨w.heap.size + 1 + 1, 6, none⟩).isSome = true := by rw [d6]; rfl
    have p7 : (W.cell? ⟨w.heap.size + 1 + 1, 7, none⟩).isSome = true := by rw [d7]; rfl
    have p8 : (W.cell? ⟨w.heap.size + 1 + 1, 8, none⟩).isSome = true := by rw [d8]; rfl
    have p9 : (W.cell? ⟨w.heap.size + 1 + 1, 9, none⟩).isSome = true := by rw [d9]; rfl
    have q0 : (W.cell? ⟨w.heap.size + 1 + 1 + 1, 0, none⟩).isSome = true := by rw [y0]; rfl
    have q1 : (W.cell? ⟨w.heap.size + 1 + 1 + 1, 1, none⟩).isSome = true := by rw [y1]; rfl
    refine bodyPost_ret (v := .tuple #[.agg #[.slice (some ⟨bw, 0, none⟩) ws.length cw, .int .i64 sm, .int .i64 toh, .int .i64 ((T : Int) + k), .bool cyc, .int .i64 sn, .int .i64 old, .int .i64 ((C : Int) + k), .int .i64 sr, .slice ar rs.length cr], .agg #[.int .i64 t, .int .i64 (T : Int)]]) (by simp [results, Tryz.results75, go_sem, p0, p1, p2, p3, p4, p5, p6, p7, p8, p9, q0, q1]) rfl ⟨rfl, ?_⟩
    exact ⟨Rw.drew (Rw.of_block HWf.out (zpl (by omega) (by omega))), zvl HKf.out (by omega) (by omega)⟩
theorem zp3 {sm p k : Int} (hs : 0 < sm) (hp : 0 <= p) (h1 : k * sm <= p) (h2 : p < (k + 1) * sm) : p.tdiv sm = k := by
 rw [Int.tdiv_eq_ediv_of_nonneg hp]
 exact Int.le_antisymm (Int.lt_add_one_iff.1 (Int.ediv_lt_of_lt_mul hs h2)) (Int.le_ediv_of_mul_le hs h1)
structure ze6 (sm toh : Int) (S E F Od : Nat) : Prop where
 s0 : 256 <= sm
 s1 : sm <= 4000
 t0 : 0 <= toh
 t1 : toh <= 1
 hS : toh * sm + 1 = S
 hE : (toh + 1) * sm = E
 hF : (1 - toh) * sm + 1 = F
 hO : (Od : Int) <= (2 - toh) * sm
theorem ze6.use {sm toh : Int} {S E F Od : Nat} (h : ze6 sm toh S E F Od) {p : Nat} (h1 : S <= p) (h2 : p < E) : (p : Int).tdiv sm = toh := by
 have a := h.s0
 have b := h.hS
 have c := h.hE
 exact zp3 (by omega) (by omega) (by omega) (by omega)
theorem ze6.other {sm toh : Int} {S E F Od : Nat} (h : ze6 sm toh S E F Od) {p : Nat} (h1 : F <= p) (h2 : p < Od) : (p : Int).tdiv sm = 1 - toh := by
 have a := h.s0
 have b := h.hF
 have c := h.hO
 refine zp3 (by omega) (by omega) (by omega) ?_
 have e : 1 - toh + 1 = 2 - toh := by omega
 rw [e]
 omega
theorem zn5 (bw cw : Nat) (ws : List Int) (sm toh : Int) (T : Nat) (cyc : Bool) (sn old : Int) (C : Nat) (sr : Int) (ar : Option Addr) (cr : Nat) (rs : List (Int × Int)) (t m : Int) (w : World) {S E F Od sc J : Nat} {L O : List Nat} (hW : RwW w bw ws) (hC : Cyc ⟨ws, T, C⟩ S E F Od sc J L O) (hH : ze6 sm toh S E F Od) (hm : isR t = true -> 0 <= m /\ (m.toNat ∈ L \/ m.toNat ∈ O)) (hCb : C <= 1048576) :
 Calls Tryz.prog 75 #[.agg #[.slice (some ⟨bw, 0, none⟩) ws.length cw, .int .i64 sm, .int .i64 toh, .int .i64 (T : Int), .bool cyc, .int .i64 sn, .int .i64 old, .int .i64 (C : Int), .int .i64 sr, .slice ar rs.length cr], .agg #[.int .i64 t, .int .i64 m]] w fun e w' =>
  e = .returned (.tuple #[.agg #[.slice (some ⟨bw, 0, none⟩) ws.length cw, .int .i64 sm, .int .i64 toh, .int .i64 ((zag S ⟨ws, T, C⟩ t m).T : Int), .bool cyc, .int .i64 sn, .int .i64 old, .int .i64 ((zag S ⟨ws, T, C⟩ t m).C : Int), .int .i64 sr, .slice ar rs.length cr], .agg #[.int .i64 t, .int .i64 (zax S ⟨ws, T, C⟩ t m)]]) /\ RwW w' bw (zag S ⟨ws, T, C⟩ t m).ws /\ Kp [bw] w w' := by
 have hsm := hC.small
 have hw := hC.w64
 have hTE := hC.TE
 have hE := hC.hE
 have hap := hC.ap
 dsimp only at hsm hw hTE hE
 cases hr : isR t with
 | false =>
   have e1 : zag S ⟨ws, T, C⟩ t m = ⟨ws, T, C⟩ := by unfold zag zd7; simp [hr]
   have e2 : zax S ⟨ws, T, C⟩ t m = m := by unfold zax; rw [if_neg (fun g => by rw [hr] at g; simp at g)]
   rw [e1, e2]
   refine (zn3 bw cw ws sm toh T cyc sn old C sr ar cr rs t m w hr).mono ?_
   rintro e w' ⟨rfl, hb⟩
   exact ⟨rfl, Rw.below hW hb, Kp.of_below hb⟩
 | true =>
   obtain ⟨m0, hmm⟩ := hm hr
   obtain ⟨p, rfl⟩ := Int.eq_ofNat_of_zero_le m0
   rw [Int.toNat_natCast] at hmm
   have hin := hC.inUse hmm
   by_cases hu : p ∈ L
   · have hpi := hin.2 hu
     dsimp only at hpi
     have e1 : zag S ⟨ws, T, C⟩ t (p : Int) = ⟨ws, T, C⟩ := by unfold zag zd7; rw [if_neg]; simp; omega
     have e2 : zax S ⟨ws, T, C⟩ t (p : Int) = (p : Int) := by unfold zax; rw [if_neg (fun g => g.2 (by dsimp only; omega))]
     rw [e1, e2]
     have hd := hH.use hpi.1 (show p < E by omega)
     refine (zn4 bw cw ws sm toh T cyc sn old C sr ar cr rs t (p : Int) w toh hr hH.s0 hH.s1 (by omega) (by omega) hd hH.t0 hH.t1 (by simp)).mono ?_
     rintro e w' ⟨rfl, hb⟩
     exact ⟨rfl, Rw.below hW hb, Kp.of_below hb⟩
   · have hpO : p ∈ O := by
      rcases hmm with g | g
      · exact absurd g hu
      · exact g
     obtain ⟨o1, o2, ho⟩ := hC.inO hpO
     have hOd := hC.hOd
     dsimp only at ho hOd
     have hnu : ¬ ((S : Int) <= (p : Int) /\ (p : Int) < (T : Int)) := fun g => hu (hin.1 (by dsimp only; omega))
     have hd := hH.other o1 o2
     have hH0 := hH.t0
     have hH1 := hH.t1
     have hne : (1 - toh == toh) = false := beq_eq_false_iff_ne.2 (by omega)
     rcases ho with ⟨g1, g2⟩ | ⟨g1, g2, g3⟩
     · have hf := zfi g1
       have e1 : zag S ⟨ws, T, C⟩ t (p : Int) = ⟨mvW ws p T (szA ws p), T + szA ws p, C + szA ws p⟩ := by
        unfold zag
        rw [if_pos (by simp only [zd7, hr, Int.toNat_natCast, hf, decide_eq_false hnu]; rfl)]
        simp
       have e2 : zax S ⟨ws, T, C⟩ t (p : Int) = (T : Int) := by unfold zax; rw [if_pos ⟨hr, hnu⟩, Int.toNat_natCast, hf]; simp
       have hmv := (hC.move hpO g1).TE
       dsimp only at hmv
       rw [e1, e2]
       refine (zk1 bw cw ws sm toh T cyc sn old C sr ar cr rs t p w (1 - toh) hr hH.s0 hH.s1 hd (by omega) (by omega) hne hW hsm hw (by omega) hf (szA ws p) rfl (by omega) (by omega) ?_ hCb).mono ?_
       · have := hC.ST
         dsimp only at this
         omega
       · rintro e w' ⟨rfl, h1, h2⟩
         refine ⟨?_, h1, h2⟩
         push_cast
         rfl
     · have e1 : zag S ⟨ws, T, C⟩ t (p : Int) = ⟨ws, T, C⟩ := by unfold zag zd7; simp [g2]
       have e2 : zax S ⟨ws, T, C⟩ t (p : Int) = fwP (za ws p) := by unfold zax; rw [if_pos ⟨hr, hnu⟩, Int.toNat_natCast, if_pos g2]
       rw [e1, e2]
       refine (zk0 bw cw ws sm toh T cyc sn old C sr ar cr rs t p w (1 - toh) hr hH.s0 hH.s1 hd (by omega) (by omega) hne hW hsm hw (by omega) g2).mono ?_
       rintro e w' ⟨rfl, hb⟩
       exact ⟨rfl, Rw.below hW hb, Kp.of_below hb⟩
theorem zi1 (b l cw P n : Nat) (h : P + n <= cw) (hP : P < cw) (W : World) : (Instr.sliceAt 22 (.slice (some ⟨b, 0, none⟩) l cw) (some (.int .i64 (P : Int))) (some (.int .i64 ((P : Int) + (n : Int)))) none).run Tryz.prog W = .ok (.slice (some ⟨b, P, none⟩) n (cw - P)) W := by
 have hz := Tryz.sizeOf77
 have he : Tryz.prog.elem 22 = 77 := by kernel_rfl
 rw [run_sliceAt_slice W 22 _ _ _ _ (by kernel_rfl), run_slice_lh W 22 _ _ _ (by rw [he]; exact Tryz.underlying22) .i64 .i64 _ _ (by omega) (by omega) (by omega), he, hz]
 have g1 : ¬ cw = P := by omega
 have g2 : P + n - P = n := by omega
 have g3 : ((P : Int) + (n : Int)).toNat = P + n := by omega
 simp [Result.andThen, sliced, g1, g2, g3, Addr.add]
 intro e
 exact e.symm
theorem zr4 {w : World} {b : Nat} {ws : List Int} {p q n : Nat} (h : RwW w b ws) (hp : p + n <= ws.length) (hq : q + n <= ws.length) :
 ∃ wm, (∀ c1 c2, (Builtin.copy_ #[22, 22] 3 #[.slice (some ⟨b, q, none⟩) n c1, .slice (some ⟨b, p, none⟩) n c2]).run Tryz.prog w = .ok (.int .i64 (n : Int)) wm) /\ RwW wm b (cpW ws p q n) /\ Kp [b] w wm := by
 obtain ⟨M, g, hM, ⟨c, hb, hcM, hc⟩, hg⟩ := h
 obtain ⟨cs, hcs⟩ : ∃ cs : List Value, cs = (List.range n).map fun j => Value.int .u64 (za ws (p + j)) := ⟨_, rfl⟩
 have hl : cs.length = n := by rw [hcs]; simp
 refine ⟨w.setRow b (c.toList.take q ++ cs ++ c.toList.drop (q + cs.length)).toArray, fun c1 c2 => ?_, ?_, ?_⟩
 · have := run_copy_row (P := Tryz.prog) w 22 22 3 77 b q n c1 ⟨b, p, none⟩ n c2 c 77 cs Tryz.underlying22 (by kernel_rfl) hb (by rw [hl]; exact (Nat.min_self n).symm) (fun j v hj => by
    rw [hcs, List.getElem?_map] at hj
    by_cases hjn : j < n
    · rw [List.getElem?_range hjn] at hj
      simp at hj
      subst hj
      rw [Addr.add_lit]
      simp only [World.cell?, hb]
      rw [hc (p + j) (by omega), hg (p + j) (by omega)]
      simp
    · rw [List.getElem?_eq_none (by simp; omega)] at hj
      simp at hj) (by omega) (fun v hv => by rw [hcs] at hv; obtain ⟨j, _, rfl⟩ := List.mem_map.1 hv; rfl)
   rw [this, hl]
   rfl
 · refine ⟨M, fun i => (c.toList.take q ++ cs ++ c.toList.drop (q + cs.length)).toArray.getD i (.bool false), by rw [zbk]; exact hM, ⟨_, setRow_heap w b c _ _ _ hb, ?_, fun i hi => ?_⟩, fun i hi => ?_⟩
   · simp; omega
   · dsimp only
     rw [Array.getD_eq_getD_getElem?]
     have : i < (c.toList.take q ++ cs ++ c.toList.drop (q + cs.length)).toArray.size := by simp; omega
     rw [Array.getElem?_eq_getElem this]
     simp
   · rw [zbk] at hi
     dsimp only
     rw [zgd hi, Array.getD_eq_getD_getElem?]
     have hci : ∀ x, x < ws.length -> c[x]? = some (.int .u64 (za ws x)) := fun x hx => by rw [hc x (by omega), hg x hx]
     by_cases e1 : i < q
     · rw [if_neg (by omega)]
       have : (c.toList.take q ++ cs ++ c.toList.drop (q + cs.length)).toArray[i]? = c[i]? := by
        simp only [List.getElem?_toArray]
        rw [List.getElem?_append_left (by simp; omega), List.getElem?_append_left (by simp; omega), List.getElem?_take_of_lt e1]
        simp
       rw [this, hci i hi]
       rfl
     · by_cases e2 : i < q + n
       · rw [if_pos (by omega)]
         have : (c.toList.take q ++ cs ++ c.toList.drop (q + cs.length)).toArray[i]? = cs[i - q]? := by
          simp only [List.getElem?_toArray]
          rw [List.getElem?_append_left (by simp; omega), List.getElem?_append_right (by simp; omega)]
          congr 1
          simp
          omega
         rw [this, hcs, List.getElem?_map, List.getElem?_range (by omega)]
         simp
       · rw [if_neg (by omega)]
         have : (c.toList.take q ++ cs ++ c.toList.drop (q + cs.length)).toArray[i]? = c[i]? := by
          simp only [List.getElem?_toArray]
          rw [List.getElem?_append_right (by simp; omega), List.getElem?_drop]
          simp
          congr 1
          omega
         rw [this, hci i hi]
         rfl
 · exact ⟨rfl, rfl, rfl, by simp, fun k hk hn => setRow_other w b k _ (by simpa using hn)⟩
set_option maxHeartbeats 2000000 in
theorem zwl (ba bw cw : Nat) (ws : List Int) (sm toh : Int) (T : Nat) (cyc : Bool) (sn old : Int) (C : Nat) (sr : Int) (ar : Option Addr) (cr : Nat) (rs : List (Int × Int)) (p n : Nat) (w : World) (hA : w.rowIs ba 29 10 (fun i => (#[.slice (some ⟨bw, 0, none⟩) ws.length cw, .int .i64 sm, .int .i64 toh, .int .i64 (T : Int), .bool cyc, .int .i64 sn, .int .i64 old, .int .i64 (C : Int), .int .i64 sr, .slice ar rs.length cr] : Array Value).getD i (.bool false))) (hW : RwW w bw ws) (hab : ba ≠ bw) (hcw : ws.length <= cw) (hn : ws.length <= 1048576) (hw : zg ws) (hp : p < ws.length) (hnn : szA ws p = n) (hpn : p + n <= ws.length) (hTn : T + n <= ws.length) (hdis : p + n <= T \/ T + n <= p) (hC : C <= 1048576) :
 Calls Tryz.prog 200 #[.pointer (some ⟨ba, 0, none⟩), .int .i64 (p : Int)] w fun e w' => e = .returned (.int .i64 (T : Int)) /\ w'.rowIs ba 29 10 (fun i => (#[.slice (some ⟨bw, 0, none⟩) ws.length cw, .int .i64 sm, .int .i64 toh, .int .i64 ((T : Int) + n), .bool cyc, .int .i64 sn, .int .i64 old, .int .i64 ((C : Int) + n), .int .i64 sr, .slice ar rs.length cr] : Array Value).getD i (.bool false)) /\ RwW w' bw (mvW ws p T n) /\ Kp [ba, bw] w w' := by
 have hsz : (rdS (za ws p)) + 1 = (n : Int) := by rw [<- hnn]; unfold szA; have := za1 (za ws p); omega
 have hn1 : 1 <= n := by rw [<- hnn]; unfold szA; omega
 have HA : Hid (w.rowIs ba 29 10 (fun i => (#[.slice (some ⟨bw, 0, none⟩) ws.length cw, .int .i64 sm, .int .i64 toh, .int .i64 (T : Int), .bool cyc, .int .i64 sn, .int .i64 old, .int .i64 (C : Int), .int .i64 sr, .slice ar rs.length cr] : Array Value).getD i (.bool false))) := hA
 have HW : Hid (RwW w bw ws) := hW
 have KA := zx hA rfl
 have lba := hA.lt
 have lbw := hW.lt
 have KP : ∀ V, Below w.heap.size w V -> (Below w.heap.size w V /\ (∀ i, V.cell? ⟨ba, i, none⟩ = (#[.slice (some ⟨bw, 0, none⟩) ws.length cw, .int .i64 sm, .int .i64 toh, .int .i64 (T : Int), .bool cyc, .int .i64 sn, .int .i64 old, .int .i64 (C : Int), .int .i64 sr, .slice ar rs.length cr] : Array Value)[i]?)) := fun V hV => ⟨hV, zd KA hV lba⟩
 have bd' := (Below.refl w.heap.size w).drew
 clear hA hW
 go_enter Tryz.func200, Tryz.ntmps200
 go_wp2_with fail
 go_region_held3 (fun V => Below w.heap.size w V /\ (∀ i, V.cell? ⟨ba, i, none⟩ = (#[.slice (some ⟨bw, 0, none⟩) ws.length cw, .int .i64 sm, .int .i64 toh, .int .i64 (T : Int), .bool cyc, .int .i64 sn, .int .i64 old, .int .i64 (C : Int), .int .i64 sr, .slice ar rs.length cr] : Array Value)[i]?)) (first | assumption | exact KP _ bd' | exact KP _ (by assumption)) (first | (go_at_call 191; refine (zj8 _ _ _ _ _ _ _ _ _ _ _ _ _ _ _ p _ rfl ((HW.out.sl cw).below (And.left (by assumption))) hn hw hp).mono ?_; rintro e wl ⟨rfl, bb⟩; have hBl := zc (w := w) (And.left (by assumption)) bb; clear bb))
 rename_i hHl
 clear hHl KP bd' KA
 have HAl : Hid (wl.rowIs ba 29 10 (fun i => (#[.slice (some ⟨bw, 0, none⟩) ws.length cw, .int .i64 sm, .int .i64 toh, .int .i64 (T : Int), .bool cyc, .int .i64 sn, .int .i64 old, .int .i64 (C : Int), .int .i64 sr, .slice ar rs.length cr] : Array Value).getD i (.bool false))) := HA.out.of_block (hBl.block _ lba)
 have HWl : Hid (RwW wl bw ws) := Rw.below HW.out hBl
 have KA := zx HAl.out rfl
 have hB := hBl
 have HBl : Hid (Below w.heap.size w wl) := hBl
 have hn' : (ws.length : Int) <= 1048576 := by omega
 have hTn' : (T : Int) + n <= (cw : Int) := by omega
 have hpn' : (p : Int) + n <= (cw : Int) := by omega
 have hT0 : (T : Int) <= 1048576 := by omega
 have hp0 : (p : Int) <= 1048576 := by omega
 have hn0 : (n : Int) <= 1048576 := by omega
 clear hBl hB
 obtain ⟨wm, hcp, hWm, hKm⟩ := zr4 (w := wl.drew) (b := bw) (ws := ws) (p := p) (q := T) (n := n) (Rw.drew HWl.out) hpn hTn
 have sl1 := fun W => zi1 bw ws.length cw T n (by omega) (by omega) W
 have sl2 := fun W => zi1 bw ws.length cw p n (by omega) (by omega) W
 have wr1 : IntKind.i64.wrap ((T : Int) + (n : Int)) = (T : Int) + n := by rw [IntKind.wrap_i64]; omega
 have wr2 : IntKind.i64.wrap ((p : Int) + (n : Int)) = (p : Int) + n := by rw [IntKind.wrap_i64]; omega
 have KP : ∀ V, Kp [bw] wl V -> (Kp [bw] wl V /\ (∀ i, V.cell? ⟨ba, i, none⟩ = (#[.slice (some ⟨bw, 0, none⟩) ws.length cw, .int .i64 sm, .int .i64 toh, .int .i64 (T : Int), .bool cyc, .int .i64 sn, .int .i64 old, .int .i64 (C : Int), .int .i64 sr, .slice ar rs.length cr] : Array Value)[i]?)) := fun V hV => ⟨hV, Kp.has KA hV (Nat.lt_of_lt_of_le lba HBl.out.size) (by simp; omega)⟩
 have HKm : Hid (Kp [bw] wl.drew wm) := hKm
 have HWm : Hid (RwW wm bw (cpW ws p T n)) := hWm
 clear hKm hWm
 go_wp2_with fail
 refine wp_region_held_drew (S := fun V => Kp [bw] wl V /\ (∀ i, V.cell? ⟨ba, i, none⟩ = (#[.slice (some ⟨bw, 0, none⟩) ws.length cw, .int .i64 sm, .int .i64 toh, .int .i64 (T : Int), .bool cyc, .int .i64 sn, .int .i64 old, .int .i64 (C : Int), .int .i64 sr, .slice ar rs.length cr] : Array Value)[i]?)) (by kernel_rfl) (KP _ (Kp.refl _ _).drew) (fun hHeld => ?_)
 refine tk 0 16 (.pointer (some ⟨ba, 0, none⟩)) hHeld rfl (by intro w hSw; (try dsimp only at hSw); go_simp) ?_
 try simp only [Act.put, zxy, zxz, zx0]
 refine tk 1 17 (.pointer (some ⟨ba, 0, none⟩)) hHeld rfl (by intro w hSw; (try dsimp only at hSw); go_simp) ?_
 try simp only [Act.put, zxy, zxz, zx0]
 refine tk 2 18 (.pointer (some ⟨ba, 0, none⟩)) hHeld rfl (by intro w hSw; (try dsimp only at hSw); go_simp) ?_
 try simp only [Act.put, zxy, zxz, zx0]
 refine tk 3 19 (.slice (some ⟨bw, 0, none⟩) ws.length cw) hHeld rfl (by intro w hSw; (try dsimp only at hSw); go_simp) ?_
 try simp only [Act.put, zxy, zxz, zx0]
 refine tk 4 20 (.int .i64 (T : Int)) hHeld rfl (by intro w hSw; (try dsimp only at hSw); go_simp) ?_
 try simp only [Act.put, zxy, zxz, zx0]
 refine tk 5 21 (.int .i64 (T : Int)) hHeld rfl (by intro w hSw; (try dsimp only at hSw); go_simp) ?_
 try simp only [Act.put, zxy, zxz, zx0]
 refine tk 6 22 (.int .i64 (n : Int)) hHeld rfl (by intro w hSw; (try dsimp only at hSw); go_simp) ?_
 try simp only [Act.put, zxy, zxz, zx0]
 refine tk 7 23 (.int .i64 ((T : Int) + n)) hHeld rfl (by intro w hSw; (try dsimp only at hSw); go_simp) ?_
 try simp only [Act.put, zxy, zxz, zx0]
 refine tk 8 24 (.slice (some ⟨bw, T, none⟩) n (cw - T)) hHeld rfl (by intro w hSw; (try dsimp only at hSw); go_simp) ?_
 try simp only [Act.put, zxy, zxz, zx0]
 refine tk 9 25 (.pointer (some ⟨ba, 0, none⟩)) hHeld rfl (by intro w hSw; (try dsimp only at hSw); go_simp) ?_
 try simp only [Act.put, zxy, zxz, zx0]
 refine tk 10 26 (.pointer (some ⟨ba, 0, none⟩)) hHeld rfl (by intro w hSw; (try dsimp only at hSw); go_simp) ?_
 try simp only [Act.put, zxy, zxz, zx0]
 refine tk 11 27 (.pointer (some ⟨ba, 0, none⟩)) hHeld rfl (by intro w hSw; (try dsimp only at hSw); go_simp) ?_
 try simp only [Act.put, zxy, zxz, zx0]
 refine tk 12 28 (.slice (some ⟨bw, 0, none⟩) ws.length cw) hHeld rfl (by intro w hSw; (try dsimp only at hSw); go_simp) ?_
 try simp only [Act.put, zxy, zxz, zx0]
 refine tk 13 29 (.int .i64 (p : Int)) hHeld rfl (by intro w hSw; (try dsimp only at hSw); go_simp) ?_
 try simp only [Act.put, zxy, zxz, zx0]
 refine tk 14 30 (.int .i64 (p : Int)) hHeld rfl (by intro w hSw; (try dsimp only at hSw); go_simp) ?_
 try simp only [Act.put, zxy, zxz, zx0]
 refine tk 15 31 (.int .i64 (n : Int)) hHeld rfl (by intro w hSw; (try dsimp only at hSw); go_simp) ?_
 try simp only [Act.put, zxy, zxz, zx0]
 refine tk 16 32 (.int .i64 ((p : Int) + n)) hHeld rfl (by intro w hSw; (try dsimp only at hSw); go_simp) ?_
 try simp only [Act.put, zxy, zxz, zx0]
 refine tk 17 33 (.slice (some ⟨bw, p, none⟩) n (cw - p)) hHeld rfl (by intro w hSw; (try dsimp only at hSw); go_simp) ?_
 try simp only [Act.put, zxy, zxz, zx0]
 refine wpAnyH_ready (rs := [18]) (by kernel_rfl) (by simp) ?_
 refine AllReadyH.cons (o := { dst := some 34, op := _, type := _, pos := _, after := _, guard := _ }) rfl (fun K hK => ?_) AllReadyH.nil
 go_simp
 clear hHeld
 refine hK.out _ _ (KP _ ((Kp.refl _ _).drew.trans HKm.out)) (fun hHeld => ?_)
 clear hK K hHeld
 try simp only [Act.put, zxy, zxz, zx0]
 refine wpAnyH_done (by kernel_rfl) ?_ _
 have hKm := (Kp.refl [bw] wl).drew.trans HKm.out
 have lbl : ba < wl.heap.size := Nat.lt_of_lt_of_le lba HBl.out.size
 have HAm : Hid (wm.rowIs ba 29 10 (fun i => (#[.slice (some ⟨bw, 0, none⟩) ws.length cw, .int .i64 sm, .int .i64 toh, .int .i64 (T : Int), .bool cyc, .int .i64 sn, .int .i64 old, .int .i64 (C : Int), .int .i64 sr, .slice ar rs.length cr] : Array Value).getD i (.bool false))) := HAl.out.of_block (hKm.block _ lbl (by simp; omega))
 clear KA KP sl1 sl2 hcp
 have KA := zx HAm.out rfl
 have fa := HAm.out.frozen
 have c1 := HWm.out.cell (i := p) (by rw [zbk]; omega)
 have f1 := HWm.out.frozen p
 have hor := zvy (q := T) (by omega)
 have hTw : IntKind.u64.wrap (T : Int) = (T : Int) := by rw [IntKind.wrap_u64]; omega
 have hp' : (p : Int) < (ws.length : Int) := by omega
 have HK1 : Hid (Kp [bw] wl wm) := hKm
 clear hKm
 go_wp2
 go_ret
 refine ⟨rfl, ?_, ?_, ?_⟩
 · refine (((HAm.out.setOther (a := ⟨bw, p, none⟩) hab _).set 3 _).set 7 _).congr fun i hi => ?_
   have hi2 : i = 0 \/ i = 1 \/ i = 2 \/ i = 3 \/ i = 4 \/ i = 5 \/ i = 6 \/ i = 7 \/ i = 8 \/ i = 9 := by omega
   rcases hi2 with rfl | rfl | rfl | rfl | rfl | rfl | rfl | rfl | rfl | rfl <;> rfl
 · rw [<- znz hp]
   exact Rw.other (Rw.other (HWm.out.set _ (by rw [zbk]; omega)) (p := ⟨ba, 3, none⟩) hab.symm _) (p := ⟨ba, 7, none⟩) hab.symm _
 · have h1 : Kp [ba, bw] w wm := (Kp.of_below HBl.out).trans (HK1.out.mono (fun x hx => by simp at hx; simp [hx]))
   exact ((h1.setCell (p := ⟨bw, p, none⟩) (.inl (by simp)) _).setCell (p := ⟨ba, 3, none⟩) (.inl (by simp)) _).setCell (p := ⟨ba, 7, none⟩) (.inl (by simp)) _
theorem ze5 {w V : World} {t m : Int} (h : Below ((w.alloc (.cells #[.int .i64 t, .int .i64 m] 57)).alloc (.cells #[.int .i64 0, .int .i64 0] 57)).heap.size ((w.alloc (.cells #[.int .i64 t, .int .i64 m] 57)).alloc (.cells #[.int .i64 0, .int .i64 0] 57)) V) :
 V.rowIs w.heap.size 57 2 (fun i => (#[.int .i64 t, .int .i64 m] : Array Value).getD i (.bool false)) /\ V.rowIs (w.heap.size + 1) 57 2 (fun i => (#[.int .i64 0, .int .i64 0] : Array Value).getD i (.bool false)) /\ Below w.heap.size w V /\ w.heap.size + 1 < V.heap.size := by
 have hz := h.size
 simp at hz
 refine ⟨⟨#[.int .i64 t, .int .i64 m], ?_, rfl, fun i hi => by simp [Array.getD, show i < 2 by omega]⟩, ⟨#[.int .i64 0, .int .i64 0], ?_, rfl, fun i hi => by simp [Array.getD, show i < 2 by omega]⟩, zk h, by omega⟩
 · rw [h.block _ (by simp; omega), Below.heap_alloc _ _ _ (by simp)]; exact Go.Deep.blk_alloc_new _ _
 · rw [h.block _ (by simp)]
   have := Go.Deep.blk_alloc_new (w.alloc (.cells #[.int .i64 t, .int .i64 m] 57)) (.cells #[.int .i64 0, .int .i64 0] 57); simpa using this
set_option maxHeartbeats 2000000 in
theorem zkg (ba bw cw : Nat) (ws : List Int) (sm toh : Int) (T : Nat) (cyc : Bool) (sn old : Int) (C : Nat) (sr : Int) (ar : Option Addr) (cr : Nat) (rs : List (Int × Int)) (t m : Int) (w : World) (hA : w.rowIs ba 29 10 (fun i => (#[.slice (some ⟨bw, 0, none⟩) ws.length cw, .int .i64 sm, .int .i64 toh, .int .i64 (T : Int), .bool cyc, .int .i64 sn, .int .i64 old, .int .i64 (C : Int), .int .i64 sr, .slice ar rs.length cr] : Array Value).getD i (.bool false))) (hW : RwW w bw ws) (hab : ba ≠ bw) (ht : isR t = false) :
 Calls Tryz.prog 171 #[.pointer (some ⟨ba, 0, none⟩), .agg #[.int .i64 t, .int .i64 m]] w fun e w' => e = .returned (.agg #[.int .i64 t, .int .i64 m]) /\ Below w.heap.size w w' := by
 have KA := zx hA rfl
 have lba := hA.lt
 have HA : Hid (w.rowIs ba 29 10 (fun i => (#[.slice (some ⟨bw, 0, none⟩) ws.length cw, .int .i64 sm, .int .i64 toh, .int .i64 (T : Int), .bool cyc, .int .i64 sn, .int .i64 old, .int .i64 (C : Int), .int .i64 sr, .slice ar rs.length cr] : Array Value).getD i (.bool false))) := hA
 have HW : Hid (RwW w bw ws) := hW
 clear hA hW
 obtain ⟨w0, hw0⟩ : ∃ V, V = ((w.alloc (.cells #[.int .i64 t, .int .i64 m] 57)).alloc (.cells #[.int .i64 0, .int .i64 0] 57)) := ⟨_, rfl⟩
 have H2 : ∀ V, Below w0.heap.size w0 V -> _ := fun V hV => ze5 (w := w) (V := V) (t := t) (m := m) (by rw [<- hw0]; exact hV)
 have KP : ∀ V, Below w0.heap.size w0 V -> (Below w0.heap.size w0 V /\ (∀ i, V.cell? ⟨ba, i, none⟩ = (#[.slice (some ⟨bw, 0, none⟩) ws.length cw, .int .i64 sm, .int .i64 toh, .int .i64 (T : Int), .bool cyc, .int .i64 sn, .int .i64 old, .int .i64 (C : Int), .int .i64 sr, .slice ar rs.length cr] : Array Value)[i]?) /\ (∀ i, V.cell? ⟨w.heap.size, i, none⟩ = (#[.int .i64 t, .int .i64 m] : Array Value)[i]?)) := fun V hV => ⟨hV, zd KA (H2 V hV).2.2.1 lba, zx (H2 V hV).1 rfl⟩
 have bd' := (Below.refl w0.heap.size w0).drew
 go_enter Tryz.func171, Tryz.ntmps171
 go_wp2_with fail
 rw [<- hw0]
 clear hw0
 refine wp_region_held_drew (S := fun V => Below w0.heap.size w0 V /\ (∀ i, V.cell? ⟨ba, i, none⟩ = (#[.slice (some ⟨bw, 0, none⟩) ws.length cw, .int .i64 sm, .int .i64 toh, .int .i64 (T : Int), .bool cyc, .int .i64 sn, .int .i64 old, .int .i64 (C : Int), .int .i64 sr, .slice ar rs.length cr] : Array Value)[i]?) /\ (∀ i, V.cell? ⟨w.heap.size, i, none⟩ = (#[.int .i64 t, .int .i64 m] : Array Value)[i]?)) (by kernel_rfl) (KP _ bd') (fun hHeld => ?_)
 refine tk 0 7 (.agg #[.int .i64 t, .int .i64 m]) hHeld rfl (by intro w hSw; (try dsimp only at hSw); go_simp) ?_
 try simp only [Act.put, zxy, zxz, zx0]
 refine wpAnyH_ready (rs := [1]) (by kernel_rfl) (by simp) ?_
 refine AllReadyH.cons (o := { dst := some 8, op := _, type := _, pos := _, after := _, guard := _ }) rfl (fun K hK => ?_) AllReadyH.nil
 go_simp
 go_at_call 131
 refine (zah _ _ _).mono ?_
 rw [ht]
 rintro e w1 ⟨rfl, hb1⟩
 have hB1 := zc (w := w0) hHeld.1 hb1
 clear hb1
 clear hHeld
 refine hK.out _ _ (KP _ hB1) (fun hHeld => ?_)
 clear hK K
 try simp only [Act.put, zxy, zxz, zx0]
 refine tk 2 9 (.bool true) hHeld rfl (by intro w hSw; (try dsimp only at hSw); go_simp) ?_
 try simp only [Act.put, zxy, zxz, zx0]
 refine tk 3 10 (.bool true) hHeld rfl (by intro w hSw; (try dsimp only at hSw); go_simp) ?_
 try simp only [Act.put, zxy, zxz, zx0]
 refine wpAnyH_take (i := 4) (oi := { dst := some 11, op := _, type := _, pos := _, after := _, guard := _ }) (v := undef) rfl (by kernel_rfl) (by kernel_rfl) (by kernel_rfl) (fun _ _ _ h => h) (Or.inr ⟨by kernel_rfl, rfl⟩) hHeld ?_
 try simp only [Act.put, zxy, zxz, zx0]
 refine wpAnyH_take (i := 5) (oi := { dst := some 12, op := _, type := _, pos := _, after := _, guard := _ }) (v := undef) rfl (by kernel_rfl) (by kernel_rfl) (by kernel_rfl) (fun _ _ _ h => h) (Or.inr ⟨by kernel_rfl, rfl⟩) hHeld ?_
 try simp only [Act.put, zxy, zxz, zx0]
 refine wpAnyH_take (i := 6) (oi := { dst := some 13, op := _, type := _, pos := _, after := _, guard := _ }) (v := undef) rfl (by kernel_rfl) (by kernel_rfl) (by kernel_rfl) (fun _ _ _ h => h) (Or.inr ⟨by kernel_rfl, rfl⟩) hHeld ?_
 try simp only [Act.put, zxy, zxz, zx0]
 refine wpAnyH_take (i := 7) (oi := { dst := some 14, op := _, type := _, pos := _, after := _, guard := _ }) (v := undef) rfl (by kernel_rfl) (by kernel_rfl) (by kernel_rfl) (fun _ _ _ h => h) (Or.inr ⟨by kernel_rfl, rfl⟩) hHeld ?_
 try simp only [Act.put, zxy, zxz, zx0]
 refine wpAnyH_take (i := 8) (oi := { dst := some 15, op := _, type := _, pos := _, after := _, guard := _ }) (v := undef) rfl (by kernel_rfl) (by kernel_rfl) (by kernel_rfl) (fun _ _ _ h => h) (Or.inr ⟨by kernel_rfl, rfl⟩) hHeld ?_
 try simp only [Act.put, zxy, zxz, zx0]
 refine wpAnyH_take (i := 9) (oi := { dst := some 16, op := _, type := _, pos := _, after := _, guard := _ }) (v := undef) rfl (by kernel_rfl) (by kernel_rfl) (by kernel_rfl) (fun _ _ _ h => h) (Or.inr ⟨by kernel_rfl, rfl⟩) hHeld ?_
 try simp only [Act.put, zxy, zxz, zx0]
 refine tk 10 17 (.bool true) hHeld rfl (by intro w hSw; (try dsimp only at hSw); go_simp) ?_
 try simp only [Act.put, zxy, zxz, zx0]
 refine wpAnyH_done (by kernel_rfl) ?_ _
 obtain ⟨RV, RY, B1, z1⟩ := H2 _ hHeld.1
 have KA1 := hHeld.2.1
 have KV := hHeld.2.2
 clear hHeld H2 KP bd' KA
 have y0 := RY.cell (i := 0) (by omega)
 have y1 := RY.cell (i := 1) (by omega)
 simp at y0 y1
 have fy := RY.frozen
 go_wp2
 have q0 : (w1.cell? ⟨w.heap.size + 1, 0, none⟩).isSome = true := by rw [y0]; rfl
 have q1 : (w1.cell? ⟨w.heap.size + 1, 1, none⟩).isSome = true := by rw [y1]; rfl
 refine bodyPost_ret (v := .agg #[.int .i64 t, .int .i64 m]) (by simp [results, Tryz.results171, go_sem, q0, q1]) rfl ⟨rfl, ?_⟩
 exact (B1.setCell (p := ⟨w.heap.size + 1, 0, none⟩) (by show w.heap.size <= w.heap.size + 1; omega) _).setCell (p := ⟨w.heap.size + 1, 1, none⟩) (by show w.heap.size <= w.heap.size + 1; omega) _
set_option maxHeartbeats 2000000 in
theorem zkh (ba bw cw : Nat) (ws : List Int) (sm toh : Int) (T : Nat) (cyc : Bool) (sn old : Int) (C : Nat) (sr : Int) (ar : Option Addr) (cr : Nat) (rs : List (Int × Int)) (t m : Int) (w : World) (hA : w.rowIs ba 29 10 (fun i => (#[.slice (some ⟨bw, 0, none⟩) ws.length cw, .int .i64 sm, .int .i64 toh, .int .i64 (T : Int), .bool cyc, .int .i64 sn, .int .i64 old, .int .i64 (C : Int), .int .i64 sr, .slice ar rs.length cr] : Array Value).getD i (.bool false))) (hW : RwW w bw ws) (hab : ba ≠ bw) (F : Int) (ht : isR t = true) (t0 : 0 <= toh) (t1 : toh <= 1) (s0 : 256 <= sm) (s1 : sm <= 4000) (hF : toh * sm + 1 = F) (hu : decide (F <= m /\ m < (T : Int)) = true) :
 Calls Tryz.prog 171 #[.pointer (some ⟨ba, 0, none⟩), .agg #[.int .i64 t, .int .i64 m]] w fun e w' => e = .returned (.agg #[.int .i64 t, .int .i64 m]) /\ Below w.heap.size w w' := by
 have KA := zx hA rfl
 have lba := hA.lt
 have HA : Hid (w.rowIs ba 29 10 (fun i => (#[.slice (some ⟨bw, 0, none⟩) ws.length cw, .int .i64 sm, .int .i64 toh, .int .i64 (T : Int), .bool cyc, .int .i64 sn, .int .i64 old, .int .i64 (C : Int), .int .i64 sr, .slice ar rs.length cr] : Array Value).getD i (.bool false))) := hA
 have HW : Hid (RwW w bw ws) := hW
 clear hA hW
 have HF : Hid (toh * sm + 1 = F) := hF
 have HU : Hid (decide (F <= m /\ m < (T : Int)) = true) := hu
 clear hF hu
 obtain ⟨w0, hw0⟩ : ∃ V, V = ((w.alloc (.cells #[.int .i64 t, .int .i64 m] 57)).alloc (.cells #[.int .i64 0, .int .i64 0] 57)) := ⟨_, rfl⟩
 have H2 : ∀ V, Below w0.heap.size w0 V -> _ := fun V hV => ze5 (w := w) (V := V) (t := t) (m := m) (by rw [<- hw0]; exact hV)
 have KP : ∀ V, Below w0.heap.size w0 V -> (Below w0.heap.size w0 V /\ (∀ i, V.cell? ⟨ba, i, none⟩ = (#[.slice (some ⟨bw, 0, none⟩) ws.length cw, .int .i64 sm, .int .i64 toh, .int .i64 (T : Int), .bool cyc, .int .i64 sn, .int .i64 old, .int .i64 (C : Int), .int .i64 sr, .slice ar rs.length cr] : Array Value)[i]?) /\ (∀ i, V.cell? ⟨w.heap.size, i, none⟩ = (#[.int .i64 t, .int .i64 m] : Array Value)[i]?)) := fun V hV => ⟨hV, zd KA (H2 V hV).2.2.1 lba, zx (H2 V hV).1 rfl⟩
 have bd' := (Below.refl w0.heap.size w0).drew
 go_enter Tryz.func171, Tryz.ntmps171
 go_wp2_with fail
 rw [<- hw0]
 clear hw0
 refine wp_region_held_drew (S := fun V => Below w0.heap.size w0 V /\ (∀ i, V.cell? ⟨ba, i, none⟩ = (#[.slice (some ⟨bw, 0, none⟩) ws.length cw, .int .i64 sm, .int .i64 toh, .int .i64 (T : Int), .bool cyc, .int .i64 sn, .int .i64 old, .int .i64 (C : Int), .int .i64 sr, .slice ar rs.length cr] : Array Value)[i]?) /\ (∀ i, V.cell? ⟨w.heap.size, i, none⟩ = (#[.int .i64 t, .int .i64 m] : Array Value)[i]?)) (by kernel_rfl) (KP _ bd') (fun hHeld => ?_)
 refine tk 0 7 (.agg #[.int .i64 t, .int .i64 m]) hHeld rfl (by intro w hSw; (try dsimp only at hSw); go_simp) ?_
 try simp only [Act.put, zxy, zxz, zx0]
 refine wpAnyH_ready (rs := [1]) (by kernel_rfl) (by simp) ?_
 refine AllReadyH.cons (o := { dst := some 8, op := _, type := _, pos := _, after := _, guard := _ }) rfl (fun K hK => ?_) AllReadyH.nil
 go_simp
 go_at_call 131
 refine (zah _ _ _).mono ?_
 rw [ht]
 rintro e w1 ⟨rfl, hb1⟩
 have hB1 := zc (w := w0) hHeld.1 hb1
 clear hb1
 clear hHeld
 refine hK.out _ _ (KP _ hB1) (fun hHeld => ?_)
 clear hK K
 try simp only [Act.put, zxy, zxz, zx0]
 refine tk 2 9 (.bool false) hHeld rfl (by intro w hSw; (try dsimp only at hSw); go_simp) ?_
 try simp only [Act.put, zxy, zxz, zx0]
 refine tk 3 10 (.bool false) hHeld rfl (by intro w hSw; (try dsimp only at hSw); go_simp) ?_
 try simp only [Act.put, zxy, zxz, zx0]
 refine tk 4 11 (.pointer (some ⟨ba, 0, none⟩)) hHeld rfl (by intro w hSw; (try dsimp only at hSw); go_simp) ?_
 try simp only [Act.put, zxy, zxz, zx0]
 refine tk 5 12 (.pointer (some ⟨ba, 0, none⟩)) hHeld rfl (by intro w hSw; (try dsimp only at hSw); go_simp) ?_
 try simp only [Act.put, zxy, zxz, zx0]
 refine tk 6 13 (.agg #[.slice (some ⟨bw, 0, none⟩) ws.length cw, .int .i64 sm, .int .i64 toh, .int .i64 (T : Int), .bool cyc, .int .i64 sn, .int .i64 old, .int .i64 (C : Int), .int .i64 sr, .slice ar rs.length cr]) hHeld rfl (by intro w hSw; (try dsimp only at hSw); go_simp) ?_
 try simp only [Act.put, zxy, zxz, zx0]
 refine tk 7 14 (.pointer (some ⟨w.heap.size, 1, none⟩)) hHeld rfl (by intro w hSw; (try dsimp only at hSw); go_simp) ?_
 try simp only [Act.put, zxy, zxz, zx0]
 refine tk 8 15 (.int .i64 m) hHeld rfl (by intro w hSw; (try dsimp only at hSw); go_simp) ?_
 try simp only [Act.put, zxy, zxz, zx0]
 refine wpAnyH_ready (rs := [9]) (by kernel_rfl) (by simp) ?_
 refine AllReadyH.cons (o := { dst := some 16, op := _, type := _, pos := _, after := _, guard := _ }) rfl (fun K hK => ?_) AllReadyH.nil
 go_simp
 go_at_call 168
 refine (zb1 _ _ _ _ _ _ _ _ _ _ _ _ _ _ _ _ _ t0 t1 s0 s1 HF.out).mono ?_
 rw [HU.out]
 rintro e w2 ⟨rfl, hb2⟩
 have hB2 := zc (w := w0) hHeld.1 hb2
 clear hb2
 clear hHeld
 refine hK.out _ _ (KP _ hB2) (fun hHeld => ?_)
 clear hK K
 try simp only [Act.put, zxy, zxz, zx0]
 refine tk 10 17 (.bool true) hHeld rfl (by intro w hSw; (try dsimp only at hSw); go_simp) ?_
 try simp only [Act.put, zxy, zxz, zx0]
 refine wpAnyH_done (by kernel_rfl) ?_ _
 obtain ⟨RV, RY, B1, z1⟩ := H2 _ hHeld.1
 have KA1 := hHeld.2.1
 have KV := hHeld.2.2
 clear hHeld H2 KP bd' KA
 have y0 := RY.cell (i := 0) (by omega)
 have y1 := RY.cell (i := 1) (by omega)
 simp at y0 y1
 have fy := RY.frozen
 go_wp2
 have q0 : (w2.cell? ⟨w.heap.size + 1, 0, none⟩).isSome = true := by rw [y0]; rfl
 have q1 : (w2.cell? ⟨w.heap.size + 1, 1, none⟩).isSome = true := by rw [y1]; rfl
 refine bodyPost_ret (v := .agg #[.int .i64 t, .int .i64 m]) (by simp [results, Tryz.results171, go_sem, q0, q1]) rfl ⟨rfl, ?_⟩
 exact (B1.setCell (p := ⟨w.heap.size + 1, 0, none⟩) (by show w.heap.size <= w.heap.size + 1; omega) _).setCell (p := ⟨w.heap.size + 1, 1, none⟩) (by show w.heap.size <= w.heap.size + 1; omega) _
set_option maxHeartbeats 2000000 in
theorem zn1 (ba bw cw : Nat) (ws : List Int) (sm toh : Int) (T : Nat) (cyc : Bool) (sn old : Int) (C : Nat) (sr : Int) (ar : Option Addr) (cr : Nat) (rs : List (Int × Int)) (t : Int) (p : Nat) (w : World) (hA : w.rowIs ba 29 10 (fun i => (#[.slice (some ⟨bw, 0, none⟩) ws.length cw, .int .i64 sm, .int .i64 toh, .int .i64 (T : Int), .bool cyc, .int .i64 sn, .int .i64 old, .int .i64 (C : Int), .int .i64 sr, .slice ar rs.length cr] : Array Value).getD i (.bool false))) (hW : RwW w bw ws) (hab : ba ≠ bw) (F : Int) (ht : isR t = true) (t0 : 0 <= toh) (t1 : toh <= 1) (s0 : 256 <= sm) (s1 : sm <= 4000) (hF : toh * sm + 1 = F) (hu : decide (F <= (p : Int) /\ (p : Int) < (T : Int)) = false) (hn : ws.length <= 1048576) (hw : zg ws) (hp : p < ws.length) (hf : zbe (za ws p) = true) :
 Calls Tryz.prog 171 #[.pointer (some ⟨ba, 0, none⟩), .agg #[.int .i64 t, .int .i64 (p : Int)]] w fun e w' => e = .returned (.agg #[.int .i64 t, .int .i64 (fwP (za ws p))]) /\ Below w.heap.size w w' := by
 have KA := zx hA rfl
 have lba := hA.lt
 have HA : Hid (w.rowIs ba 29 10 (fun i => (#[.slice (some ⟨bw, 0, none⟩) ws.length cw, .int .i64 sm, .int .i64 toh, .int .i64 (T : Int), .bool cyc, .int .i64 sn, .int .i64 old, .int .i64 (C : Int), .int .i64 sr, .slice ar rs.length cr] : Array Value).getD i (.bool false))) := hA
 have HW : Hid (RwW w bw ws) := hW
 clear hA hW
 have HF : Hid (toh * sm + 1 = F) := hF
 have HU : Hid (decide (F <= (p : Int) /\ (p : Int) < (T : Int)) = false) := hu
 have hx := zv hw p
 have hp' : (p : Int) < (ws.length : Int) := by omega
 clear hF hu
 obtain ⟨w0, hw0⟩ : ∃ V, V = ((w.alloc (.cells #[.int .i64 t, .int .i64 (p : Int)] 57)).alloc (.cells #[.int .i64 0, .int .i64 0] 57)) := ⟨_, rfl⟩
 have H2 : ∀ V, Below w0.heap.size w0 V -> _ := fun V hV => ze5 (w := w) (V := V) (t := t) (m := (p : Int)) (by rw [<- hw0]; exact hV)
 have KP : ∀ V, Below w0.heap.size w0 V -> (Below w0.heap.size w0 V /\ (∀ i, V.cell? ⟨ba, i, none⟩ = (#[.slice (some ⟨bw, 0, none⟩) ws.length cw, .int .i64 sm, .int .i64 toh, .int .i64 (T : Int), .bool cyc, .int .i64 sn, .int .i64 old, .int .i64 (C : Int), .int .i64 sr, .slice ar rs.length cr] : Array Value)[i]?) /\ (∀ i, V.cell? ⟨w.heap.size, i, none⟩ = (#[.int .i64 t, .int .i64 (p : Int)] : Array Value)[i]?)) := fun V hV => ⟨hV, zd KA (H2 V hV).2.2.1 lba, zx (H2 V hV).1 rfl⟩
 have bd' := (Below.refl w0.heap.size w0).drew
 go_enter Tryz.func171, Tryz.ntmps171
 go_wp2_with fail
 rw [<- hw0]
 clear hw0
 refine wp_region_held_drew (S := fun V => Below w0.heap.size w0 V /\ (∀ i, V.cell? ⟨ba, i, none⟩ = (#[.slice (some ⟨bw, 0, none⟩) ws.length cw, .int .i64 sm, .int .i64 toh, .int .i64 (T : Int), .bool cyc, .int .i64 sn, .int .i64 old, .int .i64 (C : Int), .int .i64 sr, .slice ar rs.length cr] : Array Value)[i]?) /\ (∀ i, V.cell? ⟨w.heap.size, i, none⟩ = (#[.int .i64 t, .int .i64 (p : Int)] : Array Value)[i]?)) (by kernel_rfl) (KP _ bd') (fun hHeld => ?_)
 refine tk 0 7 (.agg #[.int .i64 t, .int .i64 (p : Int)]) hHeld rfl (by intro w hSw; (try dsimp only at hSw); go_simp) ?_
 try simp only [Act.put, zxy, zxz, zx0]
 refine wpAnyH_ready (rs := [1]) (by kernel_rfl) (by simp) ?_
 refine AllReadyH.cons (o := { dst := some 8, op := _, type := _, pos := _, after := _, guard := _ }) rfl (fun K hK => ?_) AllReadyH.nil
 go_simp
 go_at_call 131
 refine (zah _ _ _).mono ?_
 rw [ht]
 rintro e w1 ⟨rfl, hb1⟩
 have hB1 := zc (w := w0) hHeld.1 hb1
 clear hb1
 clear hHeld
 refine hK.out _ _ (KP _ hB1) (fun hHeld => ?_)
 clear hK K
 try simp only [Act.put, zxy, zxz, zx0]
 refine tk 2 9 (.bool false) hHeld rfl (by intro w hSw; (try dsimp only at hSw); go_simp) ?_
 try simp only [Act.put, zxy, zxz, zx0]
 refine tk 3 10 (.bool false) hHeld rfl (by intro w hSw; (try dsimp only at hSw); go_simp) ?_
 try simp only [Act.put, zxy, zxz, zx0]
 refine tk 4 11 (.pointer (some ⟨ba, 0, none⟩)) hHeld rfl (by intro w hSw; (try dsimp only at hSw); go_simp) ?_
 try simp only [Act.put, zxy, zxz, zx0]
 refine tk 5 12 (.pointer (some ⟨ba, 0, none⟩)) hHeld rfl (by intro w hSw; (try dsimp only at hSw); go_simp) ?_
 try simp only [Act.put, zxy, zxz, zx0]
 refine tk 6 13 (.agg #[.slice (some ⟨bw, 0, none⟩) ws.length cw, .int .i64 sm, .int .i64 toh, .int .i64 (T : Int), .bool cyc, .int .i64 sn, .int .i64 old, .int .i64 (C : Int), .int .i64 sr, .slice ar rs.length cr]) hHeld rfl (by intro w hSw; (try dsimp only at hSw); go_simp) ?_
 try simp only [Act.put, zxy, zxz, zx0]
 refine tk 7 14 (.pointer (some ⟨w.heap.size, 1, none⟩)) hHeld rfl (by intro w hSw; (try dsimp only at hSw); go_simp) ?_
 try simp only [Act.put, zxy, zxz, zx0]
 refine tk 8 15 (.int .i64 (p : Int)) hHeld rfl (by intro w hSw; (try dsimp only at hSw); go_simp) ?_
 try simp only [Act.put, zxy, zxz, zx0]
 refine wpAnyH_ready (rs := [9]) (by kernel_rfl) (by simp) ?_
 refine AllReadyH.cons (o := { dst := some 16, op := _, type := _, pos := _, after := _, guard := _ }) rfl (fun K hK => ?_) AllReadyH.nil
 go_simp
 go_at_call 168
 refine (zb1 _ _ _ _ _ _ _ _ _ _ _ _ _ _ _ _ _ t0 t1 s0 s1 HF.out).mono ?_
 rw [HU.out]
 rintro e w2 ⟨rfl, hb2⟩
 have hB2 := zc (w := w0) hHeld.1 hb2
 clear hb2
 clear hHeld
 refine hK.out _ _ (KP _ hB2) (fun hHeld => ?_)
 clear hK K
 try simp only [Act.put, zxy, zxz, zx0]
 refine tk 10 17 (.bool false) hHeld rfl (by intro w hSw; (try dsimp only at hSw); go_simp) ?_
 try simp only [Act.put, zxy, zxz, zx0]
 refine wpAnyH_done (by kernel_rfl) ?_ _
 obtain ⟨RV, RY, B1, z1⟩ := H2 _ hHeld.1
 have KA1 := hHeld.2.1
 have KV := hHeld.2.2
 clear hHeld H2 KP bd' KA
 have HW1 : Hid (RwW w2 bw ws) := Rw.below HW.out B1
 have x0 := HW1.out.cell hp
 have HRY : Hid (w2.rowIs (w.heap.size + 1) 57 2 (fun i => (#[.int .i64 0, .int .i64 0] : Array Value).getD i (.bool false))) := RY
 have HRV : Hid (w2.rowIs w.heap.size 57 2 (fun i => (#[.int .i64 t, .int .i64 (p : Int)] : Array Value).getD i (.bool false))) := RV
 clear RY RV
 go_wp2_with fail
 go_region_held3 (fun V => V = w2.drew) (first | assumption | rfl) (first | (go_at_call 199; refine (zcb _ _ hx.1 hx.2).mono ?_; rw [hf]; rintro e w' ⟨rfl, rfl⟩))
 obtain ⟨w3, hw3⟩ : ∃ V, V = w2.drew := ⟨_, rfl⟩
 rw [<- hw3]
 have HRY3 : Hid (w3.rowIs (w.heap.size + 1) 57 2 (fun i => (#[.int .i64 0, .int .i64 0] : Array Value).getD i (.bool false))) := by show w3.rowIs _ _ _ _; rw [hw3]; exact HRY.out.drew
 have HRV3 : Hid (w3.rowIs w.heap.size 57 2 (fun i => (#[.int .i64 t, .int .i64 (p : Int)] : Array Value).getD i (.bool false))) := by show w3.rowIs _ _ _ _; rw [hw3]; exact HRV.out.drew
 have B3 : Below w.heap.size w w3 := by rw [hw3]; exact B1.drew
 have HW3 : Hid (RwW w3 bw ws) := Rw.below HW.out B3
 have HA3 : Hid (w3.rowIs ba 29 10 (fun i => (#[.slice (some ⟨bw, 0, none⟩) ws.length cw, .int .i64 sm, .int .i64 toh, .int .i64 (T : Int), .bool cyc, .int .i64 sn, .int .i64 old, .int .i64 (C : Int), .int .i64 sr, .slice ar rs.length cr] : Array Value).getD i (.bool false))) := HA.out.of_block (B3.block _ lba)
 clear hw3 HW1 HRY HRV KA1 KV x0
 have KV := zx HRV3.out rfl
 have RY := HRY3.out
 have y0 := RY.cell (i := 0) (by omega)
 have y1 := RY.cell (i := 1) (by omega)
 simp at y0 y1
 have fy := RY.frozen
 clear RY
 go_wp2
 have q0 : (w3.cell? ⟨w.heap.size + 1, 0, none⟩).isSome = true := by rw [y0]; rfl
 have q1 : (w3.cell? ⟨w.heap.size + 1, 1, none⟩).isSome = true := by rw [y1]; rfl
 refine bodyPost_ret (v := .agg #[.int .i64 t, .int .i64 (fwP (za ws p))]) (by simp [results, Tryz.results171, go_sem, q0, q1]) rfl ⟨rfl, ?_⟩
 exact (B3.setCell (p := ⟨w.heap.size + 1, 0, none⟩) (by show w.heap.size <= w.heap.size + 1; omega) _).setCell (p := ⟨w.heap.size + 1, 1, none⟩) (by show w.heap.size <= w.heap.size + 1; omega) _
set_option maxHeartbeats 2000000 in
theorem zn2 (ba bw cw : Nat) (ws : List Int) (sm toh : Int) (T : Nat) (cyc : Bool) (sn old : Int) (C : Nat) (sr : Int) (ar : Option Addr) (cr : Nat) (rs : List (Int × Int)) (t : Int) (p : Nat) (w : World) (hA : w.rowIs ba 29 10 (fun i => (#[.slice (some ⟨bw, 0, none⟩) ws.length cw, .int .i64 sm, .int .i64 toh, .int .i64 (T : Int), .bool cyc, .int .i64 sn, .int .i64 old, .int .i64 (C : Int), .int .i64 sr, .slice ar rs.length cr] : Array Value).getD i (.bool false))) (hW : RwW w bw ws) (hab : ba ≠ bw) (F : Int) (ht : isR t = true) (t0 : 0 <= toh) (t1 : toh <= 1) (s0 : 256 <= sm) (s1 : sm <= 4000) (hF : toh * sm + 1 = F) (hu : decide (F <= (p : Int) /\ (p : Int) < (T : Int)) = false) (hn : ws.length <= 1048576) (hw : zg ws) (hp : p < ws.length) (hf : zbe (za ws p) = false) (hcw : ws.length <= cw) (n : Nat) (hnn : szA ws p = n) (hpn : p + n <= ws.length) (hTn : T + n <= ws.length) (hdis : p + n <= T \/ T + n <= p) (hC : C <= 1048576) :
 Calls Tryz.prog 171 #[.pointer (some ⟨ba, 0, none⟩), .agg #[.int .i64 t, .int .i64 (p : Int)]] w fun e w' => e = .returned (.agg #[.int .i64 t, .int .i64 (T : Int)]) /\ w'.rowIs ba 29 10 (fun i => (#[.slice (some ⟨bw, 0, none⟩) ws.length cw, .int .i64 sm, .int .i64 toh, .int .i64 ((T : Int) + n), .bool cyc, .int .i64 sn, .int .i64 old, .int .i64 ((C : Int) + n), .int .i64 sr, .slice ar rs.length cr] : Array Value).getD i (.bool false)) /\ RwW w' bw (mvW ws p T n) /\ Kp [ba, bw] w w' := by
 have KA := zx hA rfl
 have lba := hA.lt
 have HA : Hid (w.rowIs ba 29 10 (fun i => (#[.slice (some ⟨bw, 0, none⟩) ws.length cw, .int .i64 sm, .int .i64 toh, .int .i64 (T : Int), .bool cyc, .int .i64 sn, .int .i64 old, .int .i64 (C : Int), .int .i64 sr, .slice ar rs.length cr] : Array Value).getD i (.bool false))) := hA
 have HW : Hid (RwW w bw ws) := hW
 clear hA hW
 have HF : Hid (toh * sm + 1 = F) := hF
 have HU : Hid (decide (F <= (p : Int) /\ (p : Int) < (T : Int)) = false) := hu
 have hx := zv hw p
 have hp' : (p : Int) < (ws.length : Int) := by omega
 clear hF hu
 obtain ⟨w0, hw0⟩ : ∃ V, V = ((w.alloc (.cells #[.int .i64 t, .int .i64 (p : Int)] 57)).alloc (.cells #[.int .i64 0, .int .i64 0] 57)) := ⟨_, rfl⟩
 have H2 : ∀ V, Below w0.heap.size w0 V -> _ := fun V hV => ze5 (w := w) (V := V) (t := t) (m := (p : Int)) (by rw [<- hw0]; exact hV)
 have KP : ∀ V, Below w0.heap.size w0 V -> (Below w0.heap.size w0 V /\ (∀ i, V.cell? ⟨ba, i, none⟩ = (#[.slice (some ⟨bw, 0, none⟩) ws.length cw, .int .i64 sm, .int .i64 toh, .int .i64 (T : Int), .bool cyc, .int .i64 sn, .int .i64 old, .int .i64 (C : Int), .int .i64 sr, .slice ar rs.length cr] : Array Value)[i]?) /\ (∀ i, V.cell? ⟨w.heap.size, i, none⟩ = (#[.int .i64 t, .int .i64 (p : Int)] : Array Value)[i]?)) := fun V hV => ⟨hV, zd KA (H2 V hV).2.2.1 lba, zx (H2 V hV).1 rfl⟩
 have bd' := (Below.refl w0.heap.size w0).drew
 go_enter Tryz.func171, Tryz.ntmps171
 go_wp2_with fail
 rw [<- hw0]
 clear hw0
 refine wp_region_held_drew (S := fun V => Below w0.heap.size w0 V /\ (∀ i, V.cell? ⟨ba, i, none⟩ = (#[.slice (some ⟨bw, 0, none⟩) ws.length cw, .int .i64 sm, .int .i64 toh, .int .i64 (T : Int), .bool cyc, .int .i64 sn, .int .i64 old, .int .i64 (C : Int), .int .i64 sr, .slice ar rs.length cr] : Array Value)[i]?) /\ (∀ i, V.cell? ⟨w.heap.size, i, none⟩ = (#[.int .i64 t, .int .i64 (p : Int)] : Array Value)[i]?)) (by kernel_rfl) (KP _ bd') (fun hHeld => ?_)
 refine tk 0 7 (.agg #[.int .i64 t, .int .i64 (p : Int)]) hHeld rfl (by intro w hSw; (try dsimp only at hSw); go_simp) ?_
 try simp only [Act.put, zxy, zxz, zx0]
 refine wpAnyH_ready (rs := [1]) (by kernel_rfl) (by simp) ?_
 refine AllReadyH.cons (o := { dst := some 8, op := _, type := _, pos := _, after := _, guard := _ }) rfl (fun K hK => ?_) AllReadyH.nil
 go_simp
 go_at_call 131
 refine (zah _ _ _).mono ?_
 rw [ht]
 rintro e w1 ⟨rfl, hb1⟩
 have hB1 := zc (w := w0) hHeld.1 hb1
 clear hb1
 clear hHeld
 refine hK.out _ _ (KP _ hB1) (fun hHeld => ?_)
 clear hK K
 try simp only [Act.put, zxy, zxz, zx0]
 refine tk 2 9 (.bool false) hHeld rfl (by intro w hSw; (try dsimp only at hSw); go_simp) ?_
 try simp only [Act.put, zxy, zxz, zx0]
 refine tk 3 10 (.bool false) hHeld rfl (by intro w hSw; (try dsimp only at hSw); go_simp) ?_
 try simp only [Act.put, zxy, zxz, zx0]
 refine tk 4 11 (.pointer (some ⟨ba, 0, none⟩)) hHeld rfl (by intro w hSw; (try dsimp only at hSw); go_simp) ?_
 try simp only [Act.put, zxy, zxz, zx0]
 refine tk 5 12 (.pointer (some ⟨ba, 0, none⟩)) hHeld rfl (by intro w hSw; (try dsimp only at hSw); go_simp) ?_
 try simp only [Act.put, zxy, zxz, zx0]
 refine tk 6 13 (.agg #[.slice (some ⟨bw, 0, none⟩) ws.length cw, .int .i64 sm, .int .i64 toh, .int .i64 (T : Int), .bool cyc, .int .i64 sn, .int .i64 old, .int .i64 (C : Int), .int .i64 sr, .slice ar rs.length cr]) hHeld rfl (by intro w hSw; (try dsimp only at hSw); go_simp) ?_
 try simp only [Act.put, zxy, zxz, zx0]
 refine tk 7 14 (.pointer (some ⟨w.heap.size, 1, none⟩)) hHeld rfl (by intro w hSw; (try dsimp only at hSw); go_simp) ?_
 try simp only [Act.put, zxy, zxz, zx0]
 refine tk 8 15 (.int .i64 (p : Int)) hHeld rfl (by intro w hSw; (try dsimp only at hSw); go_simp) ?_
 try simp only [Act.put, zxy, zxz, zx0]
 refine wpAnyH_ready (rs := [9]) (by kernel_rfl) (by simp) ?_
 refine AllReadyH.cons (o := { dst := some 16, op := _, type := _, pos := _, after := _, guard := _ }) rfl (fun K hK => ?_) AllReadyH.nil
 go_simp
 go_at_call 168
 refine (zb1 _ _ _ _ _ _ _ _ _ _ _ _ _ _ _ _ _ t0 t1 s0 s1 HF.out).mono ?_
 rw [HU.out]
 rintro e w2 ⟨rfl, hb2⟩
 have hB2 := zc (w := w0) hHeld.1 hb2
 clear hb2
 clear hHeld
 refine hK.out _ _ (KP _ hB2) (fun hHeld => ?_)
 clear hK K
 try simp only [Act.put, zxy, zxz, zx0]
 refine tk 10 17 (.bool false) hHeld rfl (by intro w hSw; (try dsimp only at hSw); go_simp) ?_
 try simp only [Act.put, zxy, zxz, zx0]
 refine wpAnyH_done (by kernel_rfl) ?_ _
 obtain ⟨RV, RY, B1, z1⟩ := H2 _ hHeld.1
 have KA1 := hHeld.2.1
 have KV := hHeld.2.2
 clear hHeld H2 KP bd' KA
 have HW1 : Hid (RwW w2 bw ws) := Rw.below HW.out B1
 have x0 := HW1.out.cell hp
 have HRY : Hid (w2.rowIs (w.heap.size + 1) 57 2 (fun i => (#[.int .i64 0, .int .i64 0] : Array Value).getD i (.bool false))) := RY
 have HRV : Hid (w2.rowIs w.heap.size 57 2 (fun i => (#[.int .i64 t, .int .i64 (p : Int)] : Array Value).getD i (.bool false))) := RV
 clear RY RV
 go_wp2_with fail
 go_region_held3 (fun V => V = w2.drew) (first | assumption | rfl) (first | (go_at_call 199; refine (zcb _ _ hx.1 hx.2).mono ?_; rw [hf]; rintro e w' ⟨rfl, rfl⟩))
 obtain ⟨w3, hw3⟩ : ∃ V, V = w2.drew := ⟨_, rfl⟩
 rw [<- hw3]
 have HRY3 : Hid (w3.rowIs (w.heap.size + 1) 57 2 (fun i => (#[.int .i64 0, .int .i64 0] : Array Value).getD i (.bool false))) := by show w3.rowIs _ _ _ _; rw [hw3]; exact HRY.out.drew
 have HRV3 : Hid (w3.rowIs w.heap.size 57 2 (fun i => (#[.int .i64 t, .int .i64 (p : Int)] : Array Value).getD i (.bool false))) := by show w3.rowIs _ _ _ _; rw [hw3]; exact HRV.out.drew
 have B3 : Below w.heap.size w w3 := by rw [hw3]; exact B1.drew
 have HW3 : Hid (RwW w3 bw ws) := Rw.below HW.out B3
 have HA3 : Hid (w3.rowIs ba 29 10 (fun i => (#[.slice (some ⟨bw, 0, none⟩) ws.length cw, .int .i64 sm, .int .i64 toh, .int .i64 (T : Int), .bool cyc, .int .i64 sn, .int .i64 old, .int .i64 (C : Int), .int .i64 sr, .slice ar rs.length cr] : Array Value).getD i (.bool false))) := HA.out.of_block (B3.block _ lba)
 clear hw3 HW1 HRY HRV KA1 KV x0
 have KV := zx HRV3.out rfl
 go_wp2_with fail
 refine (zwl ba bw cw ws sm toh T cyc sn old C sr ar cr rs p n _ HA3.out HW3.out hab hcw hn hw hp hnn hpn hTn hdis hC).mono ?_
 rintro e w4 ⟨rfl, hA4, hW4, hK4⟩
 have lbw := HW.out.lt
 have HRY4 : Hid (w4.rowIs (w.heap.size + 1) 57 2 (fun i => (#[.int .i64 0, .int .i64 0] : Array Value).getD i (.bool false))) := HRY3.out.of_block (hK4.block _ HRY3.out.lt (by simp; omega))
 have RV4 := HRV3.out.of_block (hK4.block _ HRV3.out.lt (by simp; omega))
 clear KV
 have KV := zx RV4 rfl
 have HA4 : Hid (w4.rowIs ba 29 10 (fun i => (#[.slice (some ⟨bw, 0, none⟩) ws.length cw, .int .i64 sm, .int .i64 toh, .int .i64 ((T : Int) + n), .bool cyc, .int .i64 sn, .int .i64 old, .int .i64 ((C : Int) + n), .int .i64 sr, .slice ar rs.length cr] : Array Value).getD i (.bool false))) := hA4
 have HW4 : Hid (RwW w4 bw (mvW ws p T n)) := hW4
 have HK4 : Hid (Kp [ba, bw] w w4) := (Kp.of_below B3).trans hK4
 have RY := HRY4.out
 have y0 := RY.cell (i := 0) (by omega)
 have y1 := RY.cell (i := 1) (by omega)
 simp at y0 y1
 have fy := RY.frozen
 clear RY RV4 hA4 hW4 hK4
 go_wp2
 have q0 : (w4.cell? ⟨w.heap.size + 1, 0, none⟩).isSome = true := by rw [y0]; rfl
 have q1 : (w4.cell? ⟨w.heap.size + 1, 1, none⟩).isSome = true := by rw [y1]; rfl
 refine bodyPost_ret (v := .agg #[.int .i64 t, .int .i64 (T : Int)]) (by simp [results, Tryz.results171, go_sem, q0, q1]) rfl ⟨rfl, ?_, ?_, ?_⟩
 · exact (HA4.out.setOther (a := ⟨w.heap.size + 1, 0, none⟩) (by show ba ≠ w.heap.size + 1; omega) _).setOther (a := ⟨w.heap.size + 1, 1, none⟩) (by show ba ≠ w.heap.size + 1; omega) _
 · exact Rw.other (Rw.other HW4.out (p := ⟨w.heap.size + 1, 0, none⟩) (by show bw ≠ w.heap.size + 1; omega) _) (p := ⟨w.heap.size + 1, 1, none⟩) (by show bw ≠ w.heap.size + 1; omega) _
 · exact (HK4.out.setCell (p := ⟨w.heap.size + 1, 0, none⟩) (.inr (Nat.le_succ _)) _).setCell (p := ⟨w.heap.size + 1, 1, none⟩) (.inr (Nat.le_succ _)) _
theorem zr3 (ba bw cw : Nat) (ws : List Int) (sm toh : Int) (T : Nat) (cyc : Bool) (sn old : Int) (C : Nat) (sr : Int) (ar : Option Addr) (cr : Nat) (rs : List (Int × Int)) (t m : Int) (w : World) {S E F Od sc J : Nat} {L O : List Nat} (hA : w.rowIs ba 29 10 (fun i => (#[.slice (some ⟨bw, 0, none⟩) ws.length cw, .int .i64 sm, .int .i64 toh, .int .i64 (T : Int), .bool cyc, .int .i64 sn, .int .i64 old, .int .i64 (C : Int), .int .i64 sr, .slice ar rs.length cr] : Array Value).getD i (.bool false))) (hW : RwW w bw ws) (hab : ba ≠ bw) (hcw : ws.length <= cw) (hC : Cyc ⟨ws, T, C⟩ S E F Od sc J L O) (hH : ze6 sm toh S E F Od) (hm : isR t = true -> 0 <= m /\ (m.toNat ∈ L \/ m.toNat ∈ O)) (hCb : C <= 1048576) :
 Calls Tryz.prog 171 #[.pointer (some ⟨ba, 0, none⟩), .agg #[.int .i64 t, .int .i64 m]] w fun e w' =>
  e = .returned (.agg #[.int .i64 t, .int .i64 (zax S ⟨ws, T, C⟩ t m)]) /\ w'.rowIs ba 29 10 (fun i => (#[.slice (some ⟨bw, 0, none⟩) ws.length cw, .int .i64 sm, .int .i64 toh, .int .i64 ((zag S ⟨ws, T, C⟩ t m).T : Int), .bool cyc, .int .i64 sn, .int .i64 old, .int .i64 ((zag S ⟨ws, T, C⟩ t m).C : Int), .int .i64 sr, .slice ar rs.length cr] : Array Value).getD i (.bool false)) /\ RwW w' bw (zag S ⟨ws, T, C⟩ t m).ws /\ Kp [ba, bw] w w' := by
 have hsm := hC.small
 have hw := hC.w64
 have hTE := hC.TE
 have hE := hC.hE
 have hap := hC.ap
 dsimp only at hsm hw hTE hE
 have keep : ∀ {w' : World}, Below w.heap.size w w' -> w'.rowIs ba 29 10 (fun i => (#[.slice (some ⟨bw, 0, none⟩) ws.length cw, .int .i64 sm, .int .i64 toh, .int .i64 (T : Int), .bool cyc, .int .i64 sn, .int .i64 old, .int .i64 (C : Int), .int .i64 sr, .slice ar rs.length cr] : Array Value).getD i (.bool false)) := fun hb => hA.of_block (hb.block _ hA.lt)
 cases hr : isR t with
 | false =>
   have e1 : zag S ⟨ws, T, C⟩ t m = ⟨ws, T, C⟩ := by unfold zag zd7; simp [hr]
   have e2 : zax S ⟨ws, T, C⟩ t m = m := by unfold zax; rw [if_neg (fun g => by rw [hr] at g; simp at g)]
   rw [e1, e2]
   refine (zkg ba bw cw ws sm toh T cyc sn old C sr ar cr rs t m w hA hW hab hr).mono ?_
   rintro e w' ⟨rfl, hb⟩
   exact ⟨rfl, keep hb, Rw.below hW hb, Kp.of_below hb⟩
 | true =>
   obtain ⟨m0, hmm⟩ := hm hr
   obtain ⟨p, rfl⟩ := Int.eq_ofNat_of_zero_le m0
   rw [Int.toNat_natCast] at hmm
   have hin := hC.inUse hmm
   by_cases hu : p ∈ L
   · have hpi := hin.2 hu
     dsimp only at hpi
     have e1 : zag S ⟨ws, T, C⟩ t (p : Int) = ⟨ws, T, C⟩ := by unfold zag zd7; rw [if_neg]; simp; omega
     have e2 : zax S ⟨ws, T, C⟩ t (p : Int) = (p : Int) := by unfold zax; rw [if_neg (fun g => g.2 (by dsimp only; omega))]
     rw [e1, e2]
     refine (zkh ba bw cw ws sm toh T cyc sn old C sr ar cr rs t (p : Int) w hA hW hab (S : Int) hr hH.t0 hH.t1 hH.s0 hH.s1 hH.hS (decide_eq_true ⟨by omega, by omega⟩)).mono ?_
     rintro e w' ⟨rfl, hb⟩
     exact ⟨rfl, keep hb, Rw.below hW hb, Kp.of_below hb⟩
   · have hpO : p ∈ O := by
      rcases hmm with g | g
      · exact absurd g hu
      · exact g
     obtain ⟨o1, o2, ho⟩ := hC.inO hpO
     have hOd := hC.hOd
     dsimp only at ho hOd
     have hnu : ¬ ((S : Int) <= (p : Int) /\ (p : Int) < (T : Int)) := fun g => hu (hin.1 (by dsimp only; omega))
     rcases ho with ⟨g1, g2⟩ | ⟨g1, g2, g3⟩
     · have hf := zfi g1
       have e1 : zag S ⟨ws, T, C⟩ t (p : Int) = ⟨mvW ws p T (szA ws p), T + szA ws p, C + szA ws p⟩ := by
        unfold zag
        rw [if_pos (by simp only [zd7, hr, Int.toNat_natCast, hf, decide_eq_false hnu]; rfl)]
        simp
       have e2 : zax S ⟨ws, T, C⟩ t (p : Int) = (T : Int) := by unfold zax; rw [if_pos ⟨hr, hnu⟩, Int.toNat_natCast, hf]; simp
       have hmv := (hC.move hpO g1).TE
       dsimp only at hmv
       rw [e1, e2]
       refine (zn2 ba bw cw ws sm toh T cyc sn old C sr ar cr rs t p w hA hW hab (S : Int) hr hH.t0 hH.t1 hH.s0 hH.s1 hH.hS (decide_eq_false hnu) hsm hw (by omega) hf hcw (szA ws p) rfl (by omega) (by omega) ?_ hCb).mono ?_
       · have := hC.ST
         dsimp only at this
         omega
       · rintro e w' ⟨rfl, h0, h1, h2⟩
         refine ⟨rfl, ?_, h1, h2⟩
         push_cast
         exact h0
     · have e1 : zag S ⟨ws, T, C⟩ t (p : Int) = ⟨ws, T, C⟩ := by unfold zag zd7; simp [g2]
       have e2 : zax S ⟨ws, T, C⟩ t (p : Int) = fwP (za ws p) := by unfold zax; rw [if_pos ⟨hr, hnu⟩, Int.toNat_natCast, if_pos g2]
       rw [e1, e2]
       refine (zn1 ba bw cw ws sm toh T cyc sn old C sr ar cr rs t p w hA hW hab (S : Int) hr hH.t0 hH.t1 hH.s0 hH.s1 hH.hS (decide_eq_false hnu) hsm hw (by omega) g2).mono ?_
       rintro e w' ⟨rfl, hb⟩
       exact ⟨rfl, keep hb, Rw.below hW hb, Kp.of_below hb⟩
end Go.Proofs.YtdnhohndppmgcaaGreatDoor
