/- The program's imaged: the words that an image tells. -/
import Derived.Test.YtmckcnmlhgpnhaaGreatKIiB
import Derived.Test.YtmckcnmlhgpnhaaGreatKKwM
import Derived.Test.YtmckcnmlhgpnhaaGreatKImpC
import Derived.Test.YtmckcnmlhgpnhaaGreatKNewA
namespace Go.Proofs.YtmckcnmlhgpnhaaGreat
set_option maxRecDepth 20000
open Go.RowKit Go.Maps
set_option linter.unusedSimpArgs false
set_option linter.unusedVariables false

theorem infoSl : (Tryz.prog.info? 22).map (fun i => (i.zero, i.size, i.bytes)) = some (some (.slice none 0 0), 1, 24) := by kernel_rfl
set_option maxHeartbeats 4000000 in
theorem imaged_false (b off cw : Nat) (ws : List Int) (semi toh scan old copied serial : Int) (ar : Option Addr) (cr : Nat) (rs : List (Int × Int)) (w : World) (S T F O : Nat) (hcw : ws.length ≤ cw) (hn : ws.length ≤ 8000) (s0 : 256 ≤ semi) (s1 : semi ≤ 4000) (t0 : 0 ≤ toh) (t1 : toh ≤ 1) (hS : toh * semi + 1 = S) (hST : S ≤ T) (hT : T ≤ ws.length) (hS2 : S < ws.length) :
    Calls Tryz.prog 69 #[.agg #[.slice (some ⟨b, off, none⟩) ws.length cw, .int .i64 semi, .int .i64 toh, .int .i64 (T : Int), .bool false, .int .i64 scan, .int .i64 old, .int .i64 copied, .int .i64 serial, .slice ar rs.length cr]] w fun e w' => ∃ v, e = .returned v ∧ w'.ownsRow w.heap.size 22 1 v 1 [.slice (some ⟨b, off + S, none⟩) (T - S) (cw - S)] ∧ Below w.heap.size w w' := by
  obtain ⟨i0, hi, hz0, hz1', hz2⟩ := info_parts infoSl
  obtain ⟨w0, hw0⟩ : ∃ V, V = w.alloc (.cells #[.slice (some ⟨b, off, none⟩) ws.length cw, .int .i64 semi, .int .i64 toh, .int .i64 (T : Int), .bool false, .int .i64 scan, .int .i64 old, .int .i64 copied, .int .i64 serial, .slice ar rs.length cr] 30) := ⟨_, rfl⟩
  have B0 : Below w.heap.size w w0 := by rw [hw0]; exact (Below.refl _ _).alloc (Nat.le_refl _) _
  have k0 : ∀ i, w0.cell? ⟨w.heap.size, i, none⟩ = (#[.slice (some ⟨b, off, none⟩) ws.length cw, .int .i64 semi, .int .i64 toh, .int .i64 (T : Int), .bool false, .int .i64 scan, .int .i64 old, .int .i64 copied, .int .i64 serial, .slice ar rs.length cr] : Array Value)[i]? := fun i => by rw [hw0]; simp [go_sem]
  have z0 : w.heap.size < w0.heap.size := by rw [hw0]; simp
  have KP : ∀ V, Below w0.heap.size w0 V → (Below w0.heap.size w0 V ∧ ∀ i, V.cell? ⟨w.heap.size, i, none⟩ = (#[.slice (some ⟨b, off, none⟩) ws.length cw, .int .i64 semi, .int .i64 toh, .int .i64 (T : Int), .bool false, .int .i64 scan, .int .i64 old, .int .i64 copied, .int .i64 serial, .slice ar rs.length cr] : Array Value)[i]?) := fun V hV => ⟨hV, has_below k0 hV z0⟩
  have bd' := (Below.refl w0.heap.size w0).drew
  have HB0 : Hid (Below w.heap.size w w0) := B0
  have HSe : Hid (toh * semi + 1 = (S : Int)) := hS
  have hsl := fun V => slice_img b off ws.length cw S T (by omega) (by omega) (by omega) V
  clear B0 k0
  go_enter Tryz.func69, Tryz.ntmps69
  go_upto_region 1 with fail
  rw [← hw0]
  clear hw0
  refine wp_region_held_drew (S := fun V => Below w0.heap.size w0 V ∧ ∀ i, V.cell? ⟨w.heap.size, i, none⟩ = (#[.slice (some ⟨b, off, none⟩) ws.length cw, .int .i64 semi, .int .i64 toh, .int .i64 (T : Int), .bool false, .int .i64 scan, .int .i64 old, .int .i64 copied, .int .i64 serial, .slice ar rs.length cr] : Array Value)[i]?) (by kernel_rfl) (KP _ bd') (fun hHeld => ?_)
  refine tkI 0 4 (.pointer (some ⟨w.heap.size, 0, none⟩)) hHeld rfl ?_
  try simp only [Act.put, List.setIfInBounds_toArray, List.set_cons_zero, List.set_cons_succ]
  refine tkI 1 5 (.slice (some ⟨b, off, none⟩) ws.length cw) hHeld rfl ?_ (by intro V hSw; have q := hSw.2 0; simp at q; go_simp)
  try simp only [Act.put, List.setIfInBounds_toArray, List.set_cons_zero, List.set_cons_succ]
  refine tkI 2 6 (.agg #[.slice (some ⟨b, off, none⟩) ws.length cw, .int .i64 semi, .int .i64 toh, .int .i64 (T : Int), .bool false, .int .i64 scan, .int .i64 old, .int .i64 copied, .int .i64 serial, .slice ar rs.length cr]) hHeld rfl ?_ (by intro V hSw; have q0 := hSw.2 0; have q1 := hSw.2 1; have q2 := hSw.2 2; have q3 := hSw.2 3; have q4 := hSw.2 4; have q5 := hSw.2 5; have q6 := hSw.2 6; have q7 := hSw.2 7; have q8 := hSw.2 8; have q9 := hSw.2 9; simp at q0 q1 q2 q3 q4 q5 q6 q7 q8 q9; go_simp)
  try simp only [Act.put, List.setIfInBounds_toArray, List.set_cons_zero, List.set_cons_succ]
  refine tkI 3 7 (.pointer (some ⟨w.heap.size, 2, none⟩)) hHeld rfl ?_
  try simp only [Act.put, List.setIfInBounds_toArray, List.set_cons_zero, List.set_cons_succ]
  refine tkI 4 8 (.int .i64 toh) hHeld rfl ?_ (by intro V hSw; have q := hSw.2 2; simp at q; go_simp)
  try simp only [Act.put, List.setIfInBounds_toArray, List.set_cons_zero, List.set_cons_succ]
  refine tkI 6 10 (.pointer (some ⟨w.heap.size, 3, none⟩)) hHeld rfl ?_
  try simp only [Act.put, List.setIfInBounds_toArray, List.set_cons_zero, List.set_cons_succ]
  refine tkI 7 11 (.int .i64 (T : Int)) hHeld rfl ?_ (by intro V hSw; have q := hSw.2 3; simp at q; go_simp)
  try simp only [Act.put, List.setIfInBounds_toArray, List.set_cons_zero, List.set_cons_succ]
  refine wpAnyH_ready (rs := [5]) (by kernel_rfl) (by simp) ?_
  refine AllReadyH.cons (o := { dst := some 9, op := _, type := _, pos := _, after := _, guard := _ }) rfl (fun KK hKK => ?_) AllReadyH.nil
  go_simp
  go_at_call 62
  refine (begin_any _ _ semi toh _ false scan old copied serial toh _ (by omega) (by omega) t0 t1).mono ?_
  rintro e w3 ⟨rfl, b3⟩
  rw [HSe.out]
  have H3 := KP _ (below_next (w := w0) hHeld.1 b3)
  clear b3 hHeld
  refine hKK.out _ _ H3 (fun hHeld => ?_)
  clear hKK KK H3
  try simp only [Act.put, List.setIfInBounds_toArray, List.set_cons_zero, List.set_cons_succ]
  refine tkI 8 12 (.slice (some ⟨b, off + S, none⟩) (T - S) (cw - S)) hHeld rfl ?_ (by intro V hSw; have h := hsl V; go_simp)
  try simp only [Act.put, List.setIfInBounds_toArray, List.set_cons_zero, List.set_cons_succ]
  refine wpAnyH_ready (rs := [9]) (by kernel_rfl) (by simp) ?_
  refine AllReadyH.cons (o := { dst := some 13, op := _, type := _, pos := _, after := _, guard := _ }) rfl (fun KK hKK => ?_) AllReadyH.nil
  go_simp
  have b4 := hHeld.1.alloc hHeld.1.size (.cells #[.slice (some ⟨b, off + S, none⟩) (T - S) (cw - S)] 22)
  obtain ⟨w4, hw4⟩ : ∃ V, V = w3.alloc (.cells #[.slice (some ⟨b, off + S, none⟩) (T - S) (cw - S)] 22) := ⟨_, rfl⟩
  have R4 : Hid (w4.ownsRow w0.heap.size 22 1 (.slice (some ⟨w3.heap.size, 0, none⟩) 1 1) 1 [.slice (some ⟨b, off + S, none⟩) (T - S) (cw - S)]) := by
    rw [hw4]
    exact ⟨rfl, .inr ⟨w3.heap.size, 1, #[.slice (some ⟨b, off + S, none⟩) (T - S) (cw - S)], rfl, hHeld.1.size, Go.Deep.blk_alloc_new _ _, Nat.le_refl _, by unfold maxLen; omega, rfl, rfl⟩⟩
  rw [← hw4] at b4 ⊢
  have H4 := KP _ b4
  have B4 : Hid (Below w0.heap.size w0 w4) := b4
  clear hHeld hw4 b4
  refine hKK.out _ _ H4 (fun hHeld => ?_)
  clear hKK KK H4
  try simp only [Act.put, List.setIfInBounds_toArray, List.set_cons_zero, List.set_cons_succ]
  refine tkI 10 3 (.slice (some ⟨w3.heap.size, 0, none⟩) 1 1) hHeld rfl ?_
  try simp only [Act.put, List.setIfInBounds_toArray, List.set_cons_zero, List.set_cons_succ]
  refine wpAnyH_done (by kernel_rfl) ?_ _
  have k4 := hHeld.2
  clear hHeld KP bd' hsl
  go_wp2
  go_ret
  exact ⟨_, rfl, owns_mono R4.out (by omega), HB0.out.trans (B4.out.mono (by omega))⟩
set_option maxHeartbeats 4000000 in
theorem imaged_true (b off cw : Nat) (ws : List Int) (semi toh scan old copied serial : Int) (ar : Option Addr) (cr : Nat) (rs : List (Int × Int)) (w : World) (S T F O : Nat) (hcw : ws.length ≤ cw) (hn : ws.length ≤ 8000) (s0 : 256 ≤ semi) (s1 : semi ≤ 4000) (t0 : 0 ≤ toh) (t1 : toh ≤ 1) (hS : toh * semi + 1 = S) (hST : S ≤ T) (hT : T ≤ ws.length) (hS2 : S < ws.length) (hF : (1 - toh) * semi + 1 = F) (hFO : F ≤ O) (hO : O ≤ ws.length) (hF2 : F < ws.length) :
    Calls Tryz.prog 69 #[.agg #[.slice (some ⟨b, off, none⟩) ws.length cw, .int .i64 semi, .int .i64 toh, .int .i64 (T : Int), .bool true, .int .i64 scan, .int .i64 (O : Int), .int .i64 copied, .int .i64 serial, .slice ar rs.length cr]] w fun e w' => ∃ v, e = .returned v ∧ w'.ownsRow w.heap.size 22 1 v 2 [.slice (some ⟨b, off + S, none⟩) (T - S) (cw - S), .slice (some ⟨b, off + F, none⟩) (O - F) (cw - F)] ∧ Below w.heap.size w w' := by
  obtain ⟨i0, hi, hz0, hz1', hz2⟩ := info_parts infoSl
  obtain ⟨w0, hw0⟩ : ∃ V, V = w.alloc (.cells #[.slice (some ⟨b, off, none⟩) ws.length cw, .int .i64 semi, .int .i64 toh, .int .i64 (T : Int), .bool true, .int .i64 scan, .int .i64 (O : Int), .int .i64 copied, .int .i64 serial, .slice ar rs.length cr] 30) := ⟨_, rfl⟩
  have B0 : Below w.heap.size w w0 := by rw [hw0]; exact (Below.refl _ _).alloc (Nat.le_refl _) _
  have k0 : ∀ i, w0.cell? ⟨w.heap.size, i, none⟩ = (#[.slice (some ⟨b, off, none⟩) ws.length cw, .int .i64 semi, .int .i64 toh, .int .i64 (T : Int), .bool true, .int .i64 scan, .int .i64 (O : Int), .int .i64 copied, .int .i64 serial, .slice ar rs.length cr] : Array Value)[i]? := fun i => by rw [hw0]; simp [go_sem]
  have z0 : w.heap.size < w0.heap.size := by rw [hw0]; simp
  have KP : ∀ V, Below w0.heap.size w0 V → (Below w0.heap.size w0 V ∧ ∀ i, V.cell? ⟨w.heap.size, i, none⟩ = (#[.slice (some ⟨b, off, none⟩) ws.length cw, .int .i64 semi, .int .i64 toh, .int .i64 (T : Int), .bool true, .int .i64 scan, .int .i64 (O : Int), .int .i64 copied, .int .i64 serial, .slice ar rs.length cr] : Array Value)[i]?) := fun V hV => ⟨hV, has_below k0 hV z0⟩
  have bd' := (Below.refl w0.heap.size w0).drew
  have HB0 : Hid (Below w.heap.size w w0) := B0
  have HSe : Hid (toh * semi + 1 = (S : Int)) := hS
  have HFe : Hid ((1 - toh) * semi + 1 = (F : Int)) := hF
  have hsl := fun V => slice_img b off ws.length cw S T (by omega) (by omega) (by omega) V
  clear B0 k0
  go_enter Tryz.func69, Tryz.ntmps69
  go_upto_region 1 with fail
  rw [← hw0]
  clear hw0
  refine wp_region_held_drew (S := fun V => Below w0.heap.size w0 V ∧ ∀ i, V.cell? ⟨w.heap.size, i, none⟩ = (#[.slice (some ⟨b, off, none⟩) ws.length cw, .int .i64 semi, .int .i64 toh, .int .i64 (T : Int), .bool true, .int .i64 scan, .int .i64 (O : Int), .int .i64 copied, .int .i64 serial, .slice ar rs.length cr] : Array Value)[i]?) (by kernel_rfl) (KP _ bd') (fun hHeld => ?_)
  refine tkI 0 4 (.pointer (some ⟨w.heap.size, 0, none⟩)) hHeld rfl ?_
  try simp only [Act.put, List.setIfInBounds_toArray, List.set_cons_zero, List.set_cons_succ]
  refine tkI 1 5 (.slice (some ⟨b, off, none⟩) ws.length cw) hHeld rfl ?_ (by intro V hSw; have q := hSw.2 0; simp at q; go_simp)
  try simp only [Act.put, List.setIfInBounds_toArray, List.set_cons_zero, List.set_cons_succ]
  refine tkI 2 6 (.agg #[.slice (some ⟨b, off, none⟩) ws.length cw, .int .i64 semi, .int .i64 toh, .int .i64 (T : Int), .bool true, .int .i64 scan, .int .i64 (O : Int), .int .i64 copied, .int .i64 serial, .slice ar rs.length cr]) hHeld rfl ?_ (by intro V hSw; have q0 := hSw.2 0; have q1 := hSw.2 1; have q2 := hSw.2 2; have q3 := hSw.2 3; have q4 := hSw.2 4; have q5 := hSw.2 5; have q6 := hSw.2 6; have q7 := hSw.2 7; have q8 := hSw.2 8; have q9 := hSw.2 9; simp at q0 q1 q2 q3 q4 q5 q6 q7 q8 q9; go_simp)
  try simp only [Act.put, List.setIfInBounds_toArray, List.set_cons_zero, List.set_cons_succ]
  refine tkI 3 7 (.pointer (some ⟨w.heap.size, 2, none⟩)) hHeld rfl ?_
  try simp only [Act.put, List.setIfInBounds_toArray, List.set_cons_zero, List.set_cons_succ]
  refine tkI 4 8 (.int .i64 toh) hHeld rfl ?_ (by intro V hSw; have q := hSw.2 2; simp at q; go_simp)
  try simp only [Act.put, List.setIfInBounds_toArray, List.set_cons_zero, List.set_cons_succ]
  refine tkI 6 10 (.pointer (some ⟨w.heap.size, 3, none⟩)) hHeld rfl ?_
  try simp only [Act.put, List.setIfInBounds_toArray, List.set_cons_zero, List.set_cons_succ]
  refine tkI 7 11 (.int .i64 (T : Int)) hHeld rfl ?_ (by intro V hSw; have q := hSw.2 3; simp at q; go_simp)
  try simp only [Act.put, List.setIfInBounds_toArray, List.set_cons_zero, List.set_cons_succ]
  refine wpAnyH_ready (rs := [5]) (by kernel_rfl) (by simp) ?_
  refine AllReadyH.cons (o := { dst := some 9, op := _, type := _, pos := _, after := _, guard := _ }) rfl (fun KK hKK => ?_) AllReadyH.nil
  go_simp
  go_at_call 62
  refine (begin_any _ _ semi toh _ true scan (O : Int) copied serial toh _ (by omega) (by omega) t0 t1).mono ?_
  rintro e w3 ⟨rfl, b3⟩
  rw [HSe.out]
  have H3 := KP _ (below_next (w := w0) hHeld.1 b3)
  clear b3 hHeld
  refine hKK.out _ _ H3 (fun hHeld => ?_)
  clear hKK KK H3
  try simp only [Act.put, List.setIfInBounds_toArray, List.set_cons_zero, List.set_cons_succ]
  refine tkI 8 12 (.slice (some ⟨b, off + S, none⟩) (T - S) (cw - S)) hHeld rfl ?_ (by intro V hSw; have h := hsl V; go_simp)
  try simp only [Act.put, List.setIfInBounds_toArray, List.set_cons_zero, List.set_cons_succ]
  refine wpAnyH_ready (rs := [9]) (by kernel_rfl) (by simp) ?_
  refine AllReadyH.cons (o := { dst := some 13, op := _, type := _, pos := _, after := _, guard := _ }) rfl (fun KK hKK => ?_) AllReadyH.nil
  go_simp
  have b4 := hHeld.1.alloc hHeld.1.size (.cells #[.slice (some ⟨b, off + S, none⟩) (T - S) (cw - S)] 22)
  obtain ⟨w4, hw4⟩ : ∃ V, V = w3.alloc (.cells #[.slice (some ⟨b, off + S, none⟩) (T - S) (cw - S)] 22) := ⟨_, rfl⟩
  have R4 : Hid (w4.ownsRow w0.heap.size 22 1 (.slice (some ⟨w3.heap.size, 0, none⟩) 1 1) 1 [.slice (some ⟨b, off + S, none⟩) (T - S) (cw - S)]) := by
    rw [hw4]
    exact ⟨rfl, .inr ⟨w3.heap.size, 1, #[.slice (some ⟨b, off + S, none⟩) (T - S) (cw - S)], rfl, hHeld.1.size, Go.Deep.blk_alloc_new _ _, Nat.le_refl _, by unfold maxLen; omega, rfl, rfl⟩⟩
  rw [← hw4] at b4 ⊢
  have H4 := KP _ b4
  have B4 : Hid (Below w0.heap.size w0 w4) := b4
  clear hHeld hw4 b4
  refine hKK.out _ _ H4 (fun hHeld => ?_)
  clear hKK KK H4
  try simp only [Act.put, List.setIfInBounds_toArray, List.set_cons_zero, List.set_cons_succ]
  refine tkI 10 3 (.slice (some ⟨w3.heap.size, 0, none⟩) 1 1) hHeld rfl ?_
  try simp only [Act.put, List.setIfInBounds_toArray, List.set_cons_zero, List.set_cons_succ]
  refine wpAnyH_done (by kernel_rfl) ?_ _
  have k4 := hHeld.2
  clear hHeld KP bd' hsl
  go_upto_region 3 with fail
  have KP : ∀ V, Below w4.heap.size w4 V → (Below w4.heap.size w4 V ∧ ∀ i, V.cell? ⟨w.heap.size, i, none⟩ = (#[.slice (some ⟨b, off, none⟩) ws.length cw, .int .i64 semi, .int .i64 toh, .int .i64 (T : Int), .bool true, .int .i64 scan, .int .i64 (O : Int), .int .i64 copied, .int .i64 serial, .slice ar rs.length cr] : Array Value)[i]?) := fun V hV => ⟨hV, has_below k4 hV (by have := B4.out.size; omega)⟩
  have HKA : Hid (∀ V, Below w0.heap.size w4 V → ∀ i, V.cell? ⟨w.heap.size, i, none⟩ = (#[.slice (some ⟨b, off, none⟩) ws.length cw, .int .i64 semi, .int .i64 toh, .int .i64 (T : Int), .bool true, .int .i64 scan, .int .i64 (O : Int), .int .i64 copied, .int .i64 serial, .slice ar rs.length cr] : Array Value)[i]?) := fun V hV => has_below k4 hV z0
  have bd' := (Below.refl w4.heap.size w4).drew
  have hsl := fun V => slice_img b off ws.length cw F O (by omega) (by omega) (by omega) V
  have zz4 : w0.heap.size ≤ w4.heap.size := B4.out.size
  clear k4
  refine wp_region_held_drew (S := fun V => ∀ i, V.cell? ⟨w.heap.size, i, none⟩ = (#[.slice (some ⟨b, off, none⟩) ws.length cw, .int .i64 semi, .int .i64 toh, .int .i64 (T : Int), .bool true, .int .i64 scan, .int .i64 (O : Int), .int .i64 copied, .int .i64 serial, .slice ar rs.length cr] : Array Value)[i]?) (by kernel_rfl) (KP _ bd').2 (fun hHeld => ?_)
  refine tkI 0 16 (.slice (some ⟨w3.heap.size, 0, none⟩) 1 1) hHeld rfl ?_
  try simp only [Act.put, List.setIfInBounds_toArray, List.set_cons_zero, List.set_cons_succ]
  refine tkI 1 17 (.pointer (some ⟨w.heap.size, 0, none⟩)) hHeld rfl ?_
  try simp only [Act.put, List.setIfInBounds_toArray, List.set_cons_zero, List.set_cons_succ]
  refine tkI 2 18 (.slice (some ⟨b, off, none⟩) ws.length cw) hHeld rfl ?_ (by intro V hSw; have q := hSw 0; simp at q; go_simp)
  try simp only [Act.put, List.setIfInBounds_toArray, List.set_cons_zero, List.set_cons_succ]
  refine tkI 3 19 (.agg #[.slice (some ⟨b, off, none⟩) ws.length cw, .int .i64 semi, .int .i64 toh, .int .i64 (T : Int), .bool true, .int .i64 scan, .int .i64 (O : Int), .int .i64 copied, .int .i64 serial, .slice ar rs.length cr]) hHeld rfl ?_ (by intro V hSw; have q0 := hSw 0; have q1 := hSw 1; have q2 := hSw 2; have q3 := hSw 3; have q4 := hSw 4; have q5 := hSw 5; have q6 := hSw 6; have q7 := hSw 7; have q8 := hSw 8; have q9 := hSw 9; simp at q0 q1 q2 q3 q4 q5 q6 q7 q8 q9; go_simp)
  try simp only [Act.put, List.setIfInBounds_toArray, List.set_cons_zero, List.set_cons_succ]
  refine tkI 4 20 (.agg #[.slice (some ⟨b, off, none⟩) ws.length cw, .int .i64 semi, .int .i64 toh, .int .i64 (T : Int), .bool true, .int .i64 scan, .int .i64 (O : Int), .int .i64 copied, .int .i64 serial, .slice ar rs.length cr]) hHeld rfl ?_ (by intro V hSw; have q0 := hSw 0; have q1 := hSw 1; have q2 := hSw 2; have q3 := hSw 3; have q4 := hSw 4; have q5 := hSw 5; have q6 := hSw 6; have q7 := hSw 7; have q8 := hSw 8; have q9 := hSw 9; simp at q0 q1 q2 q3 q4 q5 q6 q7 q8 q9; go_simp)
  try simp only [Act.put, List.setIfInBounds_toArray, List.set_cons_zero, List.set_cons_succ]
  refine tkI 7 23 (.pointer (some ⟨w.heap.size, 6, none⟩)) hHeld rfl ?_
  try simp only [Act.put, List.setIfInBounds_toArray, List.set_cons_zero, List.set_cons_succ]
  refine tkI 8 24 (.int .i64 (O : Int)) hHeld rfl ?_ (by intro V hSw; have q := hSw 6; simp at q; go_simp)
  try simp only [Act.put, List.setIfInBounds_toArray, List.set_cons_zero, List.set_cons_succ]
  refine wpAnyH_ready (rs := [5]) (by kernel_rfl) (by simp) ?_
  refine AllReadyH.cons (o := { dst := some 21, op := _, type := _, pos := _, after := _, guard := _ }) rfl (fun KK hKK => ?_) AllReadyH.nil
  go_simp
  go_at_call 109
  refine (other_is _ _ _ _ _ _ _ _ _ _ _ _ _ _ _ t0 t1).mono ?_
  rintro e w5 ⟨rfl, b5⟩
  have b5' : Below w4.heap.size w4 w5 := below_next bd' b5
  have H5 := KP _ b5'
  clear b5 hHeld
  refine hKK.out _ _ H5.2 (fun hHeld => ?_)
  clear hKK KK
  try simp only [Act.put, List.setIfInBounds_toArray, List.set_cons_zero, List.set_cons_succ]
  refine wpAnyH_ready (rs := [6]) (by kernel_rfl) (by simp) ?_
  refine AllReadyH.cons (o := { dst := some 22, op := _, type := _, pos := _, after := _, guard := _ }) rfl (fun KK hKK => ?_) AllReadyH.nil
  go_simp
  go_at_call 62
  refine (begin_any _ _ semi toh _ true scan (O : Int) copied serial (1 - toh) _ (by omega) (by omega) (by omega) (by omega)).mono ?_
  rintro e w6 ⟨rfl, b6⟩
  rw [HFe.out]
  have b6' : Below w4.heap.size w4 w6 := below_next H5.1 b6
  have H6 := KP _ b6'
  clear b6 hHeld b5' H5
  refine hKK.out _ _ H6.2 (fun hHeld => ?_)
  clear hKK KK H6
  try simp only [Act.put, List.setIfInBounds_toArray, List.set_cons_zero, List.set_cons_succ]
  refine tkI 9 25 (.slice (some ⟨b, off + F, none⟩) (O - F) (cw - F)) hHeld rfl ?_ (by intro V hSw; have h := hsl V; go_simp)
  try simp only [Act.put, List.setIfInBounds_toArray, List.set_cons_zero, List.set_cons_succ]
  refine wpAnyH_ready (rs := [10]) (by kernel_rfl) (by simp) ?_
  refine AllReadyH.cons (o := { dst := some 26, op := _, type := _, pos := _, after := _, guard := _ }) rfl (fun KK hKK => ?_) AllReadyH.nil
  go_simp
  obtain ⟨w7, hw7⟩ : ∃ V, V = w6.alloc (.cells #[.slice (some ⟨b, off + F, none⟩) (O - F) (cw - F)] 22) := ⟨_, rfl⟩
  have b7 : Below w4.heap.size w4 w7 := by rw [hw7]; exact b6'.alloc b6'.size _
  have c7 : w7.cell? ⟨w6.heap.size, 0, none⟩ = some (.slice (some ⟨b, off + F, none⟩) (O - F) (cw - F)) := by rw [hw7]; simp [go_sem]
  have H7 := KP _ b7
  have R7 : w7.ownsRow w0.heap.size 22 1 (.slice (some ⟨w3.heap.size, 0, none⟩) 1 1) 1 [.slice (some ⟨b, off + S, none⟩) (T - S) (cw - S)] := World.ownsRow.kept R4.out (row := none) ⟨b7.os, b7.tape, b7.output, b7.size, fun k hk _ => b7.block k hk⟩ (.inr (by simp [Value.ownBlock]))
  have z7 : w4.heap.size ≤ w7.heap.size := b7.size
  rw [← hw7]
  clear hHeld hw7 b6'
  refine hKK.out _ _ H7.2 (fun hHeld => ?_)
  clear hKK KK H7
  try simp only [Act.put, List.setIfInBounds_toArray, List.set_cons_zero, List.set_cons_succ]
  refine wpAnyH_ready (rs := [11]) (by kernel_rfl) (by simp) ?_
  refine AllReadyH.cons (o := { dst := some 27, op := _, type := _, pos := _, after := _, guard := _ }) rfl (fun KK hKK => ?_) AllReadyH.nil
  rw [if_pos (by kernel_rfl)]
  refine wp_append_own _ _ _ 102 rfl w0.heap.size 22 i0 (.slice none 0 0) 1 24 Tryz.underlying102 hi hz0 hz1' hz2 rfl (by decide) (.slice (some ⟨w3.heap.size, 0, none⟩) 1 1) 1 [.slice (some ⟨b, off + S, none⟩) (T - S) (cw - S)] rfl R7 ⟨w6.heap.size, 0, none⟩ 1 1 [.slice (some ⟨b, off + F, none⟩) (O - F) (cw - F)] rfl rfl (fun j u hj => by cases j with
    | zero => simp at hj; subst hj; simpa [Addr.add] using c7
    | succ j => simp at hj) (by simp [Value.oneCell']) (by unfold maxLen; omega) (by omega) (by omega) ?_
  intro v8 w8 hown hgrow hnil
  have hlt8 := (World.ownsRow.lt R7)
  have B8 : Below w0.heap.size w4 w8 := ((b7.mono zz4).grown hgrow (by omega) (fun g hg => (hlt8 g hg).1))
  have k8 := HKA.out _ B8
  have R8 : Hid (w8.ownsRow w0.heap.size 22 1 v8 2 [.slice (some ⟨b, off + S, none⟩) (T - S) (cw - S), .slice (some ⟨b, off + F, none⟩) (O - F) (cw - F)]) := hown
  have HB8 : Hid (Below w0.heap.size w4 w8) := B8
  clear hown hgrow hnil hHeld B8 R7 hlt8 c7 b7
  refine hKK.out _ _ k8 (fun hHeld => ?_)
  clear hKK KK k8
  try simp only [Act.put, List.setIfInBounds_toArray, List.set_cons_zero, List.set_cons_succ]
  refine tkI 12 3 (v8) hHeld rfl ?_
  try simp only [Act.put, List.setIfInBounds_toArray, List.set_cons_zero, List.set_cons_succ]
  refine wpAnyH_done (by kernel_rfl) ?_ _
  clear hHeld KP bd' hsl
  go_wp2
  go_ret
  exact ⟨_, rfl, owns_mono R8.out (by omega), HB0.out.trans ((B4.out.trans HB8.out).mono (by omega))⟩
end Go.Proofs.YtmckcnmlhgpnhaaGreat
