/- The law FnExactSetRoot, walked. -/
import Derived.Test.YtaapiedminakcaaGreatProg
import Derived.Test.YtaapiedminakcaaGreatKRootsC
namespace Go.Proofs.YtaapiedminakcaaGreat
set_option maxRecDepth 20000
open Go.RowKit
set_option linter.unusedSimpArgs false
set_option linter.unusedVariables false

/-- Ten cells that were stored into a row. -/
theorem cells_ten {W : World} {k : Nat} {t : TypeId} {f : Nat → Value} {c0 c1 c2 c3 c4 c5 c6 c7 c8 c9 : Value} (h : W.rowIs k t 10 f) :
    ∀ i, ((((((((((W.setCell ⟨k, 0, none⟩ c0).setCell ⟨k, 1, none⟩ c1).setCell ⟨k, 2, none⟩ c2).setCell ⟨k, 3, none⟩ c3).setCell ⟨k, 4, none⟩ c4).setCell ⟨k, 5, none⟩ c5).setCell ⟨k, 6, none⟩ c6).setCell ⟨k, 7, none⟩ c7).setCell ⟨k, 8, none⟩ c8).setCell ⟨k, 9, none⟩ c9).cell? ⟨k, i, none⟩ = (#[c0, c1, c2, c3, c4, c5, c6, c7, c8, c9] : Array Value)[i]? := by
  have R := (((((((((h.set 0 c0).set 1 c1).set 2 c2).set 3 c3).set 4 c4).set 5 c5).set 6 c6).set 7 c7).set 8 c8).set 9 c9
  refine row_cells (t := t) (R.congr fun i hi => ?_)
  have hi' : i = 0 ∨ i = 1 ∨ i = 2 ∨ i = 3 ∨ i = 4 ∨ i = 5 ∨ i = 6 ∨ i = 7 ∨ i = 8 ∨ i = 9 := by have : i < 10 := hi; omega
  rcases hi' with rfl | rfl | rfl | rfl | rfl | rfl | rfl | rfl | rfl | rfl <;> rfl
set_option maxHeartbeats 4000000 in
theorem fnExactSetRoot_by (aw : Option Addr) (cw : Nat) (ws : List Int) (semi toh top : Int) (cyc : Bool) (scan old copied serial : Int) (ar : Option Addr) (cr : Nat) (rs : List (Int × Int)) (r t m0 : Int) (y : Nat → Int) (Tr : Nat) (w : World) (semj tohj topj : Int) (cycj : Bool) (scanj oldj copiedj serialj : Int) (n m : Nat) (z yj : Nat → Int) (q : Bool) (hnn : ws.length ≤ 1048576 → rs.length ≤ 1048576 → n ≤ 1048576) (hmm : ws.length ≤ 1048576 → rs.length ≤ 1048576 → m ≤ 1048576) (hs : Sl w (.slice aw ws.length cw) ws) (hrt : SlF Tr w (.slice ar rs.length cr) rs.length (2 * rs.length) (fun i => .int .i64 (y i))) (hl1 : ws.length ≤ 9223372036854775807) (hl2 : rs.length ≤ 9223372036854775807)
    (hspec : ws.length ≤ 1048576 → rs.length ≤ 1048576 → ∀ (aw : Option Addr) (cw : Nat) (ar : Option Addr) (cr : Nat) (W : World) (T : Nat), Sl W (.slice aw ws.length cw) ws → SlF T W (.slice ar rs.length cr) rs.length (2 * rs.length) (fun i => .int .i64 (y i)) → Calls Tryz.prog 36 #[.agg #[.slice aw ws.length cw, .int .i64 semi, .int .i64 toh, .int .i64 top, .bool cyc, .int .i64 scan, .int .i64 old, .int .i64 copied, .int .i64 serial, .slice ar rs.length cr], .int .i64 r, .agg #[.int .i64 t, .int .i64 m0]] W fun e w' => ∃ vw vr, e = .returned (.tuple #[.agg #[vw, .int .i64 semj, .int .i64 tohj, .int .i64 topj, .bool cycj, .int .i64 scanj, .int .i64 oldj, .int .i64 copiedj, .int .i64 serialj, vr], .bool q]) ∧ OwnAr W.heap.size w'.heap.size w' vw vr n m z yj ∧ Below W.heap.size W w')
    (himpl : ws.length ≤ 1048576 → rs.length ≤ 1048576 → ∀ (aw : Option Addr) (cw : Nat) (ar : Option Addr) (cr : Nat) (W : World) (T : Nat), Sl W (.slice aw ws.length cw) ws → ws.length ≤ cw → SlF T W (.slice ar rs.length cr) rs.length (2 * rs.length) (fun i => .int .i64 (y i)) → Calls Tryz.prog 38 #[.agg #[.slice aw ws.length cw, .int .i64 semi, .int .i64 toh, .int .i64 top, .bool cyc, .int .i64 scan, .int .i64 old, .int .i64 copied, .int .i64 serial, .slice ar rs.length cr], .int .i64 r, .agg #[.int .i64 t, .int .i64 m0]] W fun e w' => ∃ vw vr, e = .returned (.tuple #[.agg #[vw, .int .i64 semj, .int .i64 tohj, .int .i64 topj, .bool cycj, .int .i64 scanj, .int .i64 oldj, .int .i64 copiedj, .int .i64 serialj, vr], .bool q]) ∧ OwnAr W.heap.size w'.heap.size w' vw vr n m z yj ∧ Below W.heap.size W w') :
    Calls Tryz.prog 7 #[.agg #[.slice aw ws.length cw, .int .i64 semi, .int .i64 toh, .int .i64 top, .bool cyc, .int .i64 scan, .int .i64 old, .int .i64 copied, .int .i64 serial, .slice ar rs.length cr], .int .i64 r, .agg #[.int .i64 t, .int .i64 m0]] w fun e w' => e = .returned (.bool true) ∧ Below w.heap.size w w' := by
  by_cases h : (ws.length : Int) + rs.length ≤ 1048576
  · have hn : ws.length ≤ 1048576 := by omega
    have hn2 : rs.length ≤ 1048576 := by omega
    have h0 : ¬ (1048576 - (ws.length : Int) - rs.length) < 0 := by omega
    have hnn := hnn hn hn2
    have hmm := hmm hn hn2
    have k0 : ¬ (1 + (n : Int) + 2 * m) < 0 := by omega
    have k0' : ¬ (1 + (ws.length : Int) + 2 * rs.length) < 0 := by omega
    have HSZ : ∀ W, _ := fun W => szArena_any aw ws.length cw semi toh top cyc scan old copied serial ar rs.length cr W hl1 hl2
    rw [if_pos h] at HSZ
    have HTA : Hid (∀ W, Below w.heap.size w W → _) := fun W (hW : Below w.heap.size w W) => toArena_own aw cw ws semi toh top cyc scan old copied serial ar cr rs y w.heap.size W (hs.below hW) hn (hrt.here.below hW (Nat.le_refl _)) hn2
    have HSP : Hid _ := hspec hn hn2
    have HIM : Hid _ := himpl hn hn2
    clear hs hrt h hl1 hl2 hspec himpl
    go_enter Tryz.func7, Tryz.ntmps7
    go_wp2_with fail
    refine (HSZ _).mono ?_
    rintro e w1 ⟨rfl, b1⟩
    have B1 := below_second b1
    have k1 : ∀ i, w1.cell? ⟨w.heap.size, i, none⟩ = (#[.slice aw ws.length cw, .int .i64 semi, .int .i64 toh, .int .i64 top, .bool cyc, .int .i64 scan, .int .i64 old, .int .i64 copied, .int .i64 serial, .slice ar rs.length cr] : Array Value)[i]? := fun i => by rw [b1.cell (p := ⟨w.heap.size, i, none⟩) (by simp <;> omega)]; simp [go_sem]
    have v1 : ∀ i, w1.cell? ⟨w.heap.size + 1, i, none⟩ = (#[.int .i64 t, .int .i64 m0] : Array Value)[i]? := fun i => by rw [b1.cell (p := ⟨w.heap.size + 1, i, none⟩) (by simp <;> omega)]; simp [go_sem]
    have z1 := size_second b1
    clear b1
    go_upto_region 5 with fail
    go_cut [8, 9] from 23 to 31 (fun s8 s9 wc => ∃ (kb : Nat) (a1 : Option Addr) (c1 : Nat) (a2 : Option Addr) (c2 : Nat), s8 = .pointer (some ⟨kb, 0, none⟩) ∧ s9 = .bool q ∧ (∀ i, wc.cell? ⟨kb, i, none⟩ = (#[.slice a1 n c1, .int .i64 semj, .int .i64 tohj, .int .i64 topj, .bool cycj, .int .i64 scanj, .int .i64 oldj, .int .i64 copiedj, .int .i64 serialj, .slice a2 m c2] : Array Value)[i]?) ∧ kb < wc.heap.size ∧ SlF wc.heap.size wc (.slice a1 n c1) n n (fun i => .int .u64 (z i)) ∧ SlF wc.heap.size wc (.slice a2 m c2) m (2 * m) (fun i => .int .i64 (yj i)) ∧ Below w1.heap.size w1 wc)
    case first =>
      have KP : ∀ V, Below w1.heap.size w1 V → (Below w1.heap.size w1 V ∧ (∀ i, V.cell? ⟨w.heap.size, i, none⟩ = (#[.slice aw ws.length cw, .int .i64 semi, .int .i64 toh, .int .i64 top, .bool cyc, .int .i64 scan, .int .i64 old, .int .i64 copied, .int .i64 serial, .slice ar rs.length cr] : Array Value)[i]?) ∧ (∀ i, V.cell? ⟨w.heap.size + 1, i, none⟩ = (#[.int .i64 t, .int .i64 m0] : Array Value)[i]?)) := fun V hV => ⟨hV, has_below k1 hV (by omega), has_below v1 hV (by omega)⟩
      have bd' := (Below.refl w1.heap.size w1).drew
      clear k1 v1 HSZ HIM
      refine wp_region_held_drew (S := fun V => Below w1.heap.size w1 V ∧ (∀ i, V.cell? ⟨w.heap.size, i, none⟩ = (#[.slice aw ws.length cw, .int .i64 semi, .int .i64 toh, .int .i64 top, .bool cyc, .int .i64 scan, .int .i64 old, .int .i64 copied, .int .i64 serial, .slice ar rs.length cr] : Array Value)[i]?) ∧ (∀ i, V.cell? ⟨w.heap.size + 1, i, none⟩ = (#[.int .i64 t, .int .i64 m0] : Array Value)[i]?)) (by kernel_rfl) (KP _ bd') (fun hHeld => ?_)
      obtain ⟨wd, hwd⟩ : ∃ V, V = w1.drew := ⟨_, rfl⟩
      rw [← hwd] at hHeld ⊢
      have hBd := hHeld.1
      have hqd := hBd.size
      clear hwd
      refine wpAnyH_take (i := 0) (oi := { dst := some 24, op := _, type := _, pos := _, after := _, guard := _ }) (v := .agg #[.slice aw ws.length cw, .int .i64 semi, .int .i64 toh, .int .i64 top, .bool cyc, .int .i64 scan, .int .i64 old, .int .i64 copied, .int .i64 serial, .slice ar rs.length cr]) rfl (by kernel_rfl) (by kernel_rfl) (by kernel_rfl) (fun _ _ _ h => h) (Or.inl ⟨by kernel_rfl, ?_⟩) hHeld ?_
      · intro w hSw
        (try dsimp only at hSw)
        go_simp
      try simp only [Act.put, List.setIfInBounds_toArray, List.set_cons_zero, List.set_cons_succ]
      refine wpAnyH_take (i := 2) (oi := { dst := some 26, op := _, type := _, pos := _, after := _, guard := _ }) (v := .int .i64 r) rfl (by kernel_rfl) (by kernel_rfl) (by kernel_rfl) (fun _ _ _ h => h) (Or.inl ⟨by kernel_rfl, ?_⟩) hHeld ?_
      · intro w hSw
        (try dsimp only at hSw)
        go_simp
      try simp only [Act.put, List.setIfInBounds_toArray, List.set_cons_zero, List.set_cons_succ]
      refine wpAnyH_take (i := 3) (oi := { dst := some 27, op := _, type := _, pos := _, after := _, guard := _ }) (v := .agg #[.int .i64 t, .int .i64 m0]) rfl (by kernel_rfl) (by kernel_rfl) (by kernel_rfl) (fun _ _ _ h => h) (Or.inl ⟨by kernel_rfl, ?_⟩) hHeld ?_
      · intro w hSw
        (try dsimp only at hSw)
        go_simp
      try simp only [Act.put, List.setIfInBounds_toArray, List.set_cons_zero, List.set_cons_succ]
      refine wpAnyH_ready (rs := [1, 9]) (by kernel_rfl) (by simp) ?_
      refine AllReadyH.cons (o := { dst := some 25, op := _, type := _, pos := _, after := _, guard := _ }) rfl (fun K hK => ?_) (AllReadyH.cons (o := { dst := some 8, op := _, type := _, pos := _, after := _, guard := _ }) rfl (fun K hK => ?_) AllReadyH.nil)
      · go_simp
        go_at_call 22
        refine (HTA.out _ (below_next B1 hHeld.1)).mono ?_
        rintro e w2x ⟨x1, x2, rfl, o2, bb⟩
        obtain ⟨s2x, r2x⟩ := ownAr_sl o2
        clear o2
        have hBw2x := below_next (w := w1) hHeld.1 bb
        have hzw2x := bb.size
        clear bb hHeld
        refine hK.out _ _ (KP _ hBw2x) (fun hHeld => ?_)
        clear hK K
        try simp only [Act.put, List.setIfInBounds_toArray, List.set_cons_zero, List.set_cons_succ]
        refine wpAnyH_ready (rs := [4, 9]) (by kernel_rfl) (by simp) ?_
        refine AllReadyH.cons (o := { dst := some 28, op := _, type := _, pos := _, after := _, guard := _ }) rfl (fun K hK => ?_) (AllReadyH.cons (o := { dst := some 8, op := _, type := _, pos := _, after := _, guard := _ }) rfl (fun K hK => ?_) AllReadyH.nil)
        · go_simp
          go_at_call 37
          refine (toVal_any _ _ _).mono ?_
          rintro e w3x ⟨rfl, bb⟩
          have s3x := Sl.below s2x bb
          have r3x := (SlF.below r2x bb (Nat.le_refl _)).here
          have hBw3x := below_next (w := w1) hHeld.1 bb
          have hzw3x := bb.size
          clear bb hHeld
          refine hK.out _ _ (KP _ hBw3x) (fun hHeld => ?_)
          clear hK K
          try simp only [Act.put, List.setIfInBounds_toArray, List.set_cons_zero, List.set_cons_succ]
          refine wpAnyH_ready (rs := [5, 9]) (by kernel_rfl) (by simp) ?_
          refine AllReadyH.cons (o := { dst := some 29, op := _, type := _, pos := _, after := _, guard := _ }) rfl (fun K hK => ?_) (AllReadyH.cons (o := { dst := some 8, op := _, type := _, pos := _, after := _, guard := _ }) rfl (fun K hK => ?_) AllReadyH.nil)
          · go_simp
            go_at_call 36
            refine (HSP.out (some ⟨x1, 0, none⟩) ws.length (some ⟨x2, 0, none⟩) rs.length _ _ s3x r3x).mono ?_
            rintro e w4x ⟨vw, vr, rfl, o4x, bb⟩
            obtain ⟨a1, c1, rfl⟩ := o4x.sl.1.head
            obtain ⟨a2, c2, rfl⟩ := o4x.sl.2.head
            have hBw4x := below_next (w := w1) hHeld.1 bb
            have hzw4x := bb.size
            clear bb hHeld
            refine hK.out _ _ (KP _ hBw4x) (fun hHeld => ?_)
            clear hK K
            try simp only [Act.put, List.setIfInBounds_toArray, List.set_cons_zero, List.set_cons_succ]
            refine wpAnyH_take (i := 6) (oi := { dst := some 23, op := _, type := _, pos := _, after := _, guard := _ }) (v := .tuple #[.agg #[.slice a1 n c1, .int .i64 semj, .int .i64 tohj, .int .i64 topj, .bool cycj, .int .i64 scanj, .int .i64 oldj, .int .i64 copiedj, .int .i64 serialj, .slice a2 m c2], .bool q]) rfl (by kernel_rfl) (by kernel_rfl) (by kernel_rfl) (fun _ _ _ h => h) (Or.inl ⟨by kernel_rfl, ?_⟩) hHeld ?_
            · intro w hSw
              (try dsimp only at hSw)
              go_simp
            try simp only [Act.put, List.setIfInBounds_toArray, List.set_cons_zero, List.set_cons_succ]
            refine wpAnyH_take (i := 7) (oi := { dst := some 30, op := _, type := _, pos := _, after := _, guard := _ }) (v := .agg #[.slice a1 n c1, .int .i64 semj, .int .i64 tohj, .int .i64 topj, .bool cycj, .int .i64 scanj, .int .i64 oldj, .int .i64 copiedj, .int .i64 serialj, .slice a2 m c2]) rfl (by kernel_rfl) (by kernel_rfl) (by kernel_rfl) (fun _ _ _ h => h) (Or.inl ⟨by kernel_rfl, ?_⟩) hHeld ?_
            · intro w hSw
              (try dsimp only at hSw)
              go_simp
            try simp only [Act.put, List.setIfInBounds_toArray, List.set_cons_zero, List.set_cons_succ]
            refine wpAnyH_take (i := 8) (oi := { dst := some 31, op := _, type := _, pos := _, after := _, guard := _ }) (v := .bool q) rfl (by kernel_rfl) (by kernel_rfl) (by kernel_rfl) (fun _ _ _ h => h) (Or.inl ⟨by kernel_rfl, ?_⟩) hHeld ?_
            · intro w hSw
              (try dsimp only at hSw)
              go_simp
            try simp only [Act.put, List.setIfInBounds_toArray, List.set_cons_zero, List.set_cons_succ]
            refine wpAnyH_ready (rs := [9]) (by kernel_rfl) (by simp) ?_
            refine AllReadyH.cons (o := { dst := some 8, op := _, type := _, pos := _, after := _, guard := _ }) rfl (fun K hK => ?_) AllReadyH.nil
            go_simp
            have hHa := hHeld.1
            clear hHeld
            refine hK.out _ _ (KP _ (alloc_own hHa _)) (fun hHeld => ?_)
            clear hK K
            try simp only [Act.put, List.setIfInBounds_toArray, List.set_cons_zero, List.set_cons_succ]
            obtain ⟨wa, hwa⟩ : ∃ V, V = w4x.alloc (.cells #[.slice none 0 0, .int .i64 0, .int .i64 0, .int .i64 0, .bool false, .int .i64 0, .int .i64 0, .int .i64 0, .int .i64 0, .slice none 0 0] 30) := ⟨_, rfl⟩
            rw [← hwa] at hHeld ⊢
            have ba : Below w4x.heap.size w4x wa := by rw [hwa]; exact (Below.refl _ _).alloc (Nat.le_refl _) _
            have rz : wa.rowIs w4x.heap.size 30 10 (fun i => (#[.slice none 0 0, .int .i64 0, .int .i64 0, .int .i64 0, .bool false, .int .i64 0, .int .i64 0, .int .i64 0, .int .i64 0, .slice none 0 0] : Array Value).getD i (.bool false)) := by rw [hwa]; exact box_row (C := w4x.heap.size + 1) (Below.refl _ _) (Nat.lt_succ_self _) rfl
            have la : w4x.heap.size < wa.heap.size := World.rowIs.lt rz
            have kl : w1.heap.size ≤ w4x.heap.size := hHa.size
            have oa := OwnAr.below o4x ba (Nat.le_refl _)
            clear hwa hHa
            obtain ⟨d0, d1, d2, d3, d4, d5, d6, d7, d8, d9⟩ := row10 rz rfl rfl rfl rfl rfl rfl rfl rfl rfl rfl
            simp at d0 d1 d2 d3 d4 d5 d6 d7 d8 d9
            have ez := World.rowIs.frozen rz
            refine wpAnyH_ready (rs := [10]) (by kernel_rfl) (by simp) ?_
            refine AllReadyH.cons (o := { dst := none, op := _, type := _, pos := _, after := _, guard := _ }) rfl (fun K hK => ?_) AllReadyH.nil
            go_simp
            have hHs := hHeld.1
            clear hHeld
            refine hK.out _ _ (KP _ (below_ten hHs kl)) (fun hHeld => ?_)
            clear hK K
            try simp only [Act.put, List.setIfInBounds_toArray, List.set_cons_zero, List.set_cons_succ]
            refine wpAnyH_take (i := 11) (oi := { dst := some 9, op := _, type := _, pos := _, after := _, guard := _ }) (v := .bool q) rfl (by kernel_rfl) (by kernel_rfl) (by kernel_rfl) (fun _ _ _ h => h) (Or.inl ⟨by kernel_rfl, ?_⟩) hHeld ?_
            · intro w hSw
              (try dsimp only at hSw)
              go_simp
            try simp only [Act.put, List.setIfInBounds_toArray, List.set_cons_zero, List.set_cons_succ]
            refine wpAnyH_done (by kernel_rfl) ?_ _
            go_wp2_with fail
            go_meet
            obtain ⟨u1, y1, u2, y2, h1, h2, h3, h4, h5, h6, h7⟩ := oa
            exact ⟨w4x.heap.size, a1, c1, a2, c2, rfl, rfl, cells_ten rz, by simp; omega, (own_ten h6 (by omega)).sl.here, (own_ten h7 (by omega)).sl.here, below_ten hHs kl⟩
          · go_simp
            have hHa := hHeld.1
            clear hHeld
            refine hK.out _ _ (KP _ (alloc_own hHa _)) (fun hHeld => ?_)
            clear hK K
            try simp only [Act.put, List.setIfInBounds_toArray, List.set_cons_zero, List.set_cons_succ]
            obtain ⟨wa, hwa⟩ : ∃ V, V = w3x.alloc (.cells #[.slice none 0 0, .int .i64 0, .int .i64 0, .int .i64 0, .bool false, .int .i64 0, .int .i64 0, .int .i64 0, .int .i64 0, .slice none 0 0] 30) := ⟨_, rfl⟩
            rw [← hwa] at hHeld ⊢
            have ba : Below w3x.heap.size w3x wa := by rw [hwa]; exact (Below.refl _ _).alloc (Nat.le_refl _) _
            have rz : wa.rowIs w3x.heap.size 30 10 (fun i => (#[.slice none 0 0, .int .i64 0, .int .i64 0, .int .i64 0, .bool false, .int .i64 0, .int .i64 0, .int .i64 0, .int .i64 0, .slice none 0 0] : Array Value).getD i (.bool false)) := by rw [hwa]; exact box_row (C := w3x.heap.size + 1) (Below.refl _ _) (Nat.lt_succ_self _) rfl
            have la : w3x.heap.size < wa.heap.size := World.rowIs.lt rz
            have kl : w1.heap.size ≤ w3x.heap.size := hHa.size
            have sa := Sl.below s3x ba
            have ra := (SlF.below r3x ba (Nat.le_refl _)).here
            clear hwa hHa
            refine wpAnyH_ready (rs := [5]) (by kernel_rfl) (by simp) ?_
            refine AllReadyH.cons (o := { dst := some 29, op := _, type := _, pos := _, after := _, guard := _ }) rfl (fun K hK => ?_) AllReadyH.nil
            go_simp
            go_at_call 36
            refine (HSP.out (some ⟨x1, 0, none⟩) ws.length (some ⟨x2, 0, none⟩) rs.length _ _ sa ra).mono ?_
            rintro e w4x ⟨vw, vr, rfl, o4x, bb⟩
            obtain ⟨a1, c1, rfl⟩ := o4x.sl.1.head
            obtain ⟨a2, c2, rfl⟩ := o4x.sl.2.head
            have hBw4x := below_next (w := w1) hHeld.1 bb
            have hzw4x := bb.size
            have rz := World.rowIs.of_block rz (bb.block _ (World.rowIs.lt rz))
            clear bb hHeld
            refine hK.out _ _ (KP _ hBw4x) (fun hHeld => ?_)
            clear hK K
            try simp only [Act.put, List.setIfInBounds_toArray, List.set_cons_zero, List.set_cons_succ]
            refine wpAnyH_take (i := 6) (oi := { dst := some 23, op := _, type := _, pos := _, after := _, guard := _ }) (v := .tuple #[.agg #[.slice a1 n c1, .int .i64 semj, .int .i64 tohj, .int .i64 topj, .bool cycj, .int .i64 scanj, .int .i64 oldj, .int .i64 copiedj, .int .i64 serialj, .slice a2 m c2], .bool q]) rfl (by kernel_rfl) (by kernel_rfl) (by kernel_rfl) (fun _ _ _ h => h) (Or.inl ⟨by kernel_rfl, ?_⟩) hHeld ?_
            · intro w hSw
              (try dsimp only at hSw)
              go_simp
            try simp only [Act.put, List.setIfInBounds_toArray, List.set_cons_zero, List.set_cons_succ]
            refine wpAnyH_take (i := 7) (oi := { dst := some 30, op := _, type := _, pos := _, after := _, guard := _ }) (v := .agg #[.slice a1 n c1, .int .i64 semj, .int .i64 tohj, .int .i64 topj, .bool cycj, .int .i64 scanj, .int .i64 oldj, .int .i64 copiedj, .int .i64 serialj, .slice a2 m c2]) rfl (by kernel_rfl) (by kernel_rfl) (by kernel_rfl) (fun _ _ _ h => h) (Or.inl ⟨by kernel_rfl, ?_⟩) hHeld ?_
            · intro w hSw
              (try dsimp only at hSw)
              go_simp
            try simp only [Act.put, List.setIfInBounds_toArray, List.set_cons_zero, List.set_cons_succ]
            refine wpAnyH_take (i := 8) (oi := { dst := some 31, op := _, type := _, pos := _, after := _, guard := _ }) (v := .bool q) rfl (by kernel_rfl) (by kernel_rfl) (by kernel_rfl) (fun _ _ _ h => h) (Or.inl ⟨by kernel_rfl, ?_⟩) hHeld ?_
            · intro w hSw
              (try dsimp only at hSw)
              go_simp
            try simp only [Act.put, List.setIfInBounds_toArray, List.set_cons_zero, List.set_cons_succ]
            obtain ⟨d0, d1, d2, d3, d4, d5, d6, d7, d8, d9⟩ := row10 rz rfl rfl rfl rfl rfl rfl rfl rfl rfl rfl
            simp at d0 d1 d2 d3 d4 d5 d6 d7 d8 d9
            have ez := World.rowIs.frozen rz
            refine wpAnyH_ready (rs := [10]) (by kernel_rfl) (by simp) ?_
            refine AllReadyH.cons (o := { dst := none, op := _, type := _, pos := _, after := _, guard := _ }) rfl (fun K hK => ?_) AllReadyH.nil
            go_simp
            have hHs := hHeld.1
            clear hHeld
            refine hK.out _ _ (KP _ (below_ten hHs kl)) (fun hHeld => ?_)
            clear hK K
            try simp only [Act.put, List.setIfInBounds_toArray, List.set_cons_zero, List.set_cons_succ]
            refine wpAnyH_take (i := 11) (oi := { dst := some 9, op := _, type := _, pos := _, after := _, guard := _ }) (v := .bool q) rfl (by kernel_rfl) (by kernel_rfl) (by kernel_rfl) (fun _ _ _ h => h) (Or.inl ⟨by kernel_rfl, ?_⟩) hHeld ?_
            · intro w hSw
              (try dsimp only at hSw)
              go_simp
            try simp only [Act.put, List.setIfInBounds_toArray, List.set_cons_zero, List.set_cons_succ]
            refine wpAnyH_done (by kernel_rfl) ?_ _
            go_wp2_with fail
            go_meet
            obtain ⟨u1, y1, u2, y2, h1, h2, h3, h4, h5, h6, h7⟩ := o4x
            exact ⟨w3x.heap.size, a1, c1, a2, c2, rfl, rfl, cells_ten rz, by simp; omega, (own_ten h6 (by omega)).sl.here, (own_ten h7 (by omega)).sl.here, below_ten hHs kl⟩
        · go_simp
          have hHa := hHeld.1
          clear hHeld
          refine hK.out _ _ (KP _ (alloc_own hHa _)) (fun hHeld => ?_)
          clear hK K
          try simp only [Act.put, List.setIfInBounds_toArray, List.set_cons_zero, List.set_cons_succ]
          obtain ⟨wa, hwa⟩ : ∃ V, V = w2x.alloc (.cells #[.slice none 0 0, .int .i64 0, .int .i64 0, .int .i64 0, .bool false, .int .i64 0, .int .i64 0, .int .i64 0, .int .i64 0, .slice none 0 0] 30) := ⟨_, rfl⟩
          rw [← hwa] at hHeld ⊢
          have ba : Below w2x.heap.size w2x wa := by rw [hwa]; exact (Below.refl _ _).alloc (Nat.le_refl _) _
          have rz : wa.rowIs w2x.heap.size 30 10 (fun i => (#[.slice none 0 0, .int .i64 0, .int .i64 0, .int .i64 0, .bool false, .int .i64 0, .int .i64 0, .int .i64 0, .int .i64 0, .slice none 0 0] : Array Value).getD i (.bool false)) := by rw [hwa]; exact box_row (C := w2x.heap.size + 1) (Below.refl _ _) (Nat.lt_succ_self _) rfl
          have la : w2x.heap.size < wa.heap.size := World.rowIs.lt rz
          have kl : w1.heap.size ≤ w2x.heap.size := hHa.size
          have sa := Sl.below s2x ba
          have ra := (SlF.below r2x ba (Nat.le_refl _)).here
          clear hwa hHa
          refine wpAnyH_ready (rs := [4]) (by kernel_rfl) (by simp) ?_
          refine AllReadyH.cons (o := { dst := some 28, op := _, type := _, pos := _, after := _, guard := _ }) rfl (fun K hK => ?_) AllReadyH.nil
          go_simp
          go_at_call 37
          refine (toVal_any _ _ _).mono ?_
          rintro e w3x ⟨rfl, bb⟩
          have s3x := Sl.below sa bb
          have r3x := (SlF.below ra bb (Nat.le_refl _)).here
          have hBw3x := below_next (w := w1) hHeld.1 bb
          have hzw3x := bb.size
          have rz := World.rowIs.of_block rz (bb.block _ (World.rowIs.lt rz))
          clear bb hHeld
          refine hK.out _ _ (KP _ hBw3x) (fun hHeld => ?_)
          clear hK K
          try simp only [Act.put, List.setIfInBounds_toArray, List.set_cons_zero, List.set_cons_succ]
          refine wpAnyH_ready (rs := [5]) (by kernel_rfl) (by simp) ?_
          refine AllReadyH.cons (o := { dst := some 29, op := _, type := _, pos := _, after := _, guard := _ }) rfl (fun K hK => ?_) AllReadyH.nil
          go_simp
          go_at_call 36
          refine (HSP.out (some ⟨x1, 0, none⟩) ws.length (some ⟨x2, 0, none⟩) rs.length _ _ s3x r3x).mono ?_
          rintro e w4x ⟨vw, vr, rfl, o4x, bb⟩
          obtain ⟨a1, c1, rfl⟩ := o4x.sl.1.head
          obtain ⟨a2, c2, rfl⟩ := o4x.sl.2.head
          have hBw4x := below_next (w := w1) hHeld.1 bb
          have hzw4x := bb.size
          have rz := World.rowIs.of_block rz (bb.block _ (World.rowIs.lt rz))
          clear bb hHeld
          refine hK.out _ _ (KP _ hBw4x) (fun hHeld => ?_)
          clear hK K
          try simp only [Act.put, List.setIfInBounds_toArray, List.set_cons_zero, List.set_cons_succ]
          refine wpAnyH_take (i := 6) (oi := { dst := some 23, op := _, type := _, pos := _, after := _, guard := _ }) (v := .tuple #[.agg #[.slice a1 n c1, .int .i64 semj, .int .i64 tohj, .int .i64 topj, .bool cycj, .int .i64 scanj, .int .i64 oldj, .int .i64 copiedj, .int .i64 serialj, .slice a2 m c2], .bool q]) rfl (by kernel_rfl) (by kernel_rfl) (by kernel_rfl) (fun _ _ _ h => h) (Or.inl ⟨by kernel_rfl, ?_⟩) hHeld ?_
          · intro w hSw
            (try dsimp only at hSw)
            go_simp
          try simp only [Act.put, List.setIfInBounds_toArray, List.set_cons_zero, List.set_cons_succ]
          refine wpAnyH_take (i := 7) (oi := { dst := some 30, op := _, type := _, pos := _, after := _, guard := _ }) (v := .agg #[.slice a1 n c1, .int .i64 semj, .int .i64 tohj, .int .i64 topj, .bool cycj, .int .i64 scanj, .int .i64 oldj, .int .i64 copiedj, .int .i64 serialj, .slice a2 m c2]) rfl (by kernel_rfl) (by kernel_rfl) (by kernel_rfl) (fun _ _ _ h => h) (Or.inl ⟨by kernel_rfl, ?_⟩) hHeld ?_
          · intro w hSw
            (try dsimp only at hSw)
            go_simp
          try simp only [Act.put, List.setIfInBounds_toArray, List.set_cons_zero, List.set_cons_succ]
          refine wpAnyH_take (i := 8) (oi := { dst := some 31, op := _, type := _, pos := _, after := _, guard := _ }) (v := .bool q) rfl (by kernel_rfl) (by kernel_rfl) (by kernel_rfl) (fun _ _ _ h => h) (Or.inl ⟨by kernel_rfl, ?_⟩) hHeld ?_
          · intro w hSw
            (try dsimp only at hSw)
            go_simp
          try simp only [Act.put, List.setIfInBounds_toArray, List.set_cons_zero, List.set_cons_succ]
          obtain ⟨d0, d1, d2, d3, d4, d5, d6, d7, d8, d9⟩ := row10 rz rfl rfl rfl rfl rfl rfl rfl rfl rfl rfl
          simp at d0 d1 d2 d3 d4 d5 d6 d7 d8 d9
          have ez := World.rowIs.frozen rz
          refine wpAnyH_ready (rs := [10]) (by kernel_rfl) (by simp) ?_
          refine AllReadyH.cons (o := { dst := none, op := _, type := _, pos := _, after := _, guard := _ }) rfl (fun K hK => ?_) AllReadyH.nil
          go_simp
          have hHs := hHeld.1
          clear hHeld
          refine hK.out _ _ (KP _ (below_ten hHs kl)) (fun hHeld => ?_)
          clear hK K
          try simp only [Act.put, List.setIfInBounds_toArray, List.set_cons_zero, List.set_cons_succ]
          refine wpAnyH_take (i := 11) (oi := { dst := some 9, op := _, type := _, pos := _, after := _, guard := _ }) (v := .bool q) rfl (by kernel_rfl) (by kernel_rfl) (by kernel_rfl) (fun _ _ _ h => h) (Or.inl ⟨by kernel_rfl, ?_⟩) hHeld ?_
          · intro w hSw
            (try dsimp only at hSw)
            go_simp
          try simp only [Act.put, List.setIfInBounds_toArray, List.set_cons_zero, List.set_cons_succ]
          refine wpAnyH_done (by kernel_rfl) ?_ _
          go_wp2_with fail
          go_meet
          obtain ⟨u1, y1, u2, y2, h1, h2, h3, h4, h5, h6, h7⟩ := o4x
          exact ⟨w2x.heap.size, a1, c1, a2, c2, rfl, rfl, cells_ten rz, by simp; omega, (own_ten h6 (by omega)).sl.here, (own_ten h7 (by omega)).sl.here, below_ten hHs kl⟩
      · go_simp
        have hHa := hHeld.1
        clear hHeld
        refine hK.out _ _ (KP _ (alloc_own hHa _)) (fun hHeld => ?_)
        clear hK K
        try simp only [Act.put, List.setIfInBounds_toArray, List.set_cons_zero, List.set_cons_succ]
        obtain ⟨wa, hwa⟩ : ∃ V, V = wd.alloc (.cells #[.slice none 0 0, .int .i64 0, .int .i64 0, .int .i64 0, .bool false, .int .i64 0, .int .i64 0, .int .i64 0, .int .i64 0, .slice none 0 0] 30) := ⟨_, rfl⟩
        rw [← hwa] at hHeld ⊢
        have ba : Below wd.heap.size wd wa := by rw [hwa]; exact (Below.refl _ _).alloc (Nat.le_refl _) _
        have rz : wa.rowIs wd.heap.size 30 10 (fun i => (#[.slice none 0 0, .int .i64 0, .int .i64 0, .int .i64 0, .bool false, .int .i64 0, .int .i64 0, .int .i64 0, .int .i64 0, .slice none 0 0] : Array Value).getD i (.bool false)) := by rw [hwa]; exact box_row (C := wd.heap.size + 1) (Below.refl _ _) (Nat.lt_succ_self _) rfl
        have la : wd.heap.size < wa.heap.size := World.rowIs.lt rz
        have kl : w1.heap.size ≤ wd.heap.size := hHa.size
        clear hwa hHa
        refine wpAnyH_ready (rs := [1]) (by kernel_rfl) (by simp) ?_
        refine AllReadyH.cons (o := { dst := some 25, op := _, type := _, pos := _, after := _, guard := _ }) rfl (fun K hK => ?_) AllReadyH.nil
        go_simp
        go_at_call 22
        refine (HTA.out _ (below_next B1 hHeld.1)).mono ?_
        rintro e w2x ⟨x1, x2, rfl, o2, bb⟩
        obtain ⟨s2x, r2x⟩ := ownAr_sl o2
        clear o2
        have hBw2x := below_next (w := w1) hHeld.1 bb
        have hzw2x := bb.size
        have rz := World.rowIs.of_block rz (bb.block _ (World.rowIs.lt rz))
        clear bb hHeld
        refine hK.out _ _ (KP _ hBw2x) (fun hHeld => ?_)
        clear hK K
        try simp only [Act.put, List.setIfInBounds_toArray, List.set_cons_zero, List.set_cons_succ]
        refine wpAnyH_ready (rs := [4]) (by kernel_rfl) (by simp) ?_
        refine AllReadyH.cons (o := { dst := some 28, op := _, type := _, pos := _, after := _, guard := _ }) rfl (fun K hK => ?_) AllReadyH.nil
        go_simp
        go_at_call 37
        refine (toVal_any _ _ _).mono ?_
        rintro e w3x ⟨rfl, bb⟩
        have s3x := Sl.below s2x bb
        have r3x := (SlF.below r2x bb (Nat.le_refl _)).here
        have hBw3x := below_next (w := w1) hHeld.1 bb
        have hzw3x := bb.size
        have rz := World.rowIs.of_block rz (bb.block _ (World.rowIs.lt rz))
        clear bb hHeld
        refine hK.out _ _ (KP _ hBw3x) (fun hHeld => ?_)
        clear hK K
        try simp only [Act.put, List.setIfInBounds_toArray, List.set_cons_zero, List.set_cons_succ]
        refine wpAnyH_ready (rs := [5]) (by kernel_rfl) (by simp) ?_
        refine AllReadyH.cons (o := { dst := some 29, op := _, type := _, pos := _, after := _, guard := _ }) rfl (fun K hK => ?_) AllReadyH.nil
        go_simp
        go_at_call 36
        refine (HSP.out (some ⟨x1, 0, none⟩) ws.length (some ⟨x2, 0, none⟩) rs.length _ _ s3x r3x).mono ?_
        rintro e w4x ⟨vw, vr, rfl, o4x, bb⟩
        obtain ⟨a1, c1, rfl⟩ := o4x.sl.1.head
        obtain ⟨a2, c2, rfl⟩ := o4x.sl.2.head
        have hBw4x := below_next (w := w1) hHeld.1 bb
        have hzw4x := bb.size
        have rz := World.rowIs.of_block rz (bb.block _ (World.rowIs.lt rz))
        clear bb hHeld
        refine hK.out _ _ (KP _ hBw4x) (fun hHeld => ?_)
        clear hK K
        try simp only [Act.put, List.setIfInBounds_toArray, List.set_cons_zero, List.set_cons_succ]
        refine wpAnyH_take (i := 6) (oi := { dst := some 23, op := _, type := _, pos := _, after := _, guard := _ }) (v := .tuple #[.agg #[.slice a1 n c1, .int .i64 semj, .int .i64 tohj, .int .i64 topj, .bool cycj, .int .i64 scanj, .int .i64 oldj, .int .i64 copiedj, .int .i64 serialj, .slice a2 m c2], .bool q]) rfl (by kernel_rfl) (by kernel_rfl) (by kernel_rfl) (fun _ _ _ h => h) (Or.inl ⟨by kernel_rfl, ?_⟩) hHeld ?_
        · intro w hSw
          (try dsimp only at hSw)
          go_simp
        try simp only [Act.put, List.setIfInBounds_toArray, List.set_cons_zero, List.set_cons_succ]
        refine wpAnyH_take (i := 7) (oi := { dst := some 30, op := _, type := _, pos := _, after := _, guard := _ }) (v := .agg #[.slice a1 n c1, .int .i64 semj, .int .i64 tohj, .int .i64 topj, .bool cycj, .int .i64 scanj, .int .i64 oldj, .int .i64 copiedj, .int .i64 serialj, .slice a2 m c2]) rfl (by kernel_rfl) (by kernel_rfl) (by kernel_rfl) (fun _ _ _ h => h) (Or.inl ⟨by kernel_rfl, ?_⟩) hHeld ?_
        · intro w hSw
          (try dsimp only at hSw)
          go_simp
        try simp only [Act.put, List.setIfInBounds_toArray, List.set_cons_zero, List.set_cons_succ]
        refine wpAnyH_take (i := 8) (oi := { dst := some 31, op := _, type := _, pos := _, after := _, guard := _ }) (v := .bool q) rfl (by kernel_rfl) (by kernel_rfl) (by kernel_rfl) (fun _ _ _ h => h) (Or.inl ⟨by kernel_rfl, ?_⟩) hHeld ?_
        · intro w hSw
          (try dsimp only at hSw)
          go_simp
        try simp only [Act.put, List.setIfInBounds_toArray, List.set_cons_zero, List.set_cons_succ]
        obtain ⟨d0, d1, d2, d3, d4, d5, d6, d7, d8, d9⟩ := row10 rz rfl rfl rfl rfl rfl rfl rfl rfl rfl rfl
        simp at d0 d1 d2 d3 d4 d5 d6 d7 d8 d9
        have ez := World.rowIs.frozen rz
        refine wpAnyH_ready (rs := [10]) (by kernel_rfl) (by simp) ?_
        refine AllReadyH.cons (o := { dst := none, op := _, type := _, pos := _, after := _, guard := _ }) rfl (fun K hK => ?_) AllReadyH.nil
        go_simp
        have hHs := hHeld.1
        clear hHeld
        refine hK.out _ _ (KP _ (below_ten hHs kl)) (fun hHeld => ?_)
        clear hK K
        try simp only [Act.put, List.setIfInBounds_toArray, List.set_cons_zero, List.set_cons_succ]
        refine wpAnyH_take (i := 11) (oi := { dst := some 9, op := _, type := _, pos := _, after := _, guard := _ }) (v := .bool q) rfl (by kernel_rfl) (by kernel_rfl) (by kernel_rfl) (fun _ _ _ h => h) (Or.inl ⟨by kernel_rfl, ?_⟩) hHeld ?_
        · intro w hSw
          (try dsimp only at hSw)
          go_simp
        try simp only [Act.put, List.setIfInBounds_toArray, List.set_cons_zero, List.set_cons_succ]
        refine wpAnyH_done (by kernel_rfl) ?_ _
        go_wp2_with fail
        go_meet
        obtain ⟨u1, y1, u2, y2, h1, h2, h3, h4, h5, h6, h7⟩ := o4x
        exact ⟨wd.heap.size, a1, c1, a2, c2, rfl, rfl, cells_ten rz, by simp; omega, (own_ten h6 (by omega)).sl.here, (own_ten h7 (by omega)).sl.here, below_ten hHs kl⟩
    case rest =>
      rename World => w3
      obtain ⟨kb, a1, c1, a2, c2, rfl, rfl, q3, lk3, S3, R3, b3⟩ := hcut
      have B3 := below_next B1 b3
      have k3 := has_below k1 b3 (by omega)
      have v3 := has_below v1 b3 z1
      have z3 : w.heap.size + 1 < w3.heap.size := Nat.lt_of_lt_of_le z1 b3.size
      clear k1 v1 b3 B1 HSZ
      go_wp2_with fail
      refine (HTA.out _ B3).mono ?_
      rintro e w4 ⟨x3, x4, rfl, o4, b4⟩
      have B4 := below_next B3 b4
      have k4 := has_below k3 b4 (by omega)
      have v4 := has_below v3 b4 (by omega)
      have q4 := has_below q3 b4 lk3
      have z4 := b4.size
      have S4 := S3.below b4 (Nat.le_refl _)
      have R4 := R3.below b4 (Nat.le_refl _)
      clear k3 v3 q3 b4 S3 R3
      go_wp2_with fail
      have A4 : Below w4.heap.size w4 (w4.alloc (.cells #[.slice (some ⟨x3, 0, none⟩) ws.length ws.length, .int .i64 semi, .int .i64 toh, .int .i64 top, .bool cyc, .int .i64 scan, .int .i64 old, .int .i64 copied, .int .i64 serial, .slice (some ⟨x4, 0, none⟩) rs.length rs.length] 30)) := (Below.refl _ _).alloc (Nat.le_refl _) _
      have p5b : ∀ i, (w4.alloc (.cells #[.slice (some ⟨x3, 0, none⟩) ws.length ws.length, .int .i64 semi, .int .i64 toh, .int .i64 top, .bool cyc, .int .i64 scan, .int .i64 old, .int .i64 copied, .int .i64 serial, .slice (some ⟨x4, 0, none⟩) rs.length rs.length] 30)).cell? ⟨w4.heap.size, i, none⟩ = (#[.slice (some ⟨x3, 0, none⟩) ws.length ws.length, .int .i64 semi, .int .i64 toh, .int .i64 top, .bool cyc, .int .i64 scan, .int .i64 old, .int .i64 copied, .int .i64 serial, .slice (some ⟨x4, 0, none⟩) rs.length rs.length] : Array Value)[i]? := fun i => by simp [go_sem]
      have z5b : w4.heap.size < (w4.alloc (.cells #[.slice (some ⟨x3, 0, none⟩) ws.length ws.length, .int .i64 semi, .int .i64 toh, .int .i64 top, .bool cyc, .int .i64 scan, .int .i64 old, .int .i64 copied, .int .i64 serial, .slice (some ⟨x4, 0, none⟩) rs.length rs.length] 30)).heap.size := by simp
      obtain ⟨w5b, hw5⟩ : ∃ V, V = w4.alloc (.cells #[.slice (some ⟨x3, 0, none⟩) ws.length ws.length, .int .i64 semi, .int .i64 toh, .int .i64 top, .bool cyc, .int .i64 scan, .int .i64 old, .int .i64 copied, .int .i64 serial, .slice (some ⟨x4, 0, none⟩) rs.length rs.length] 30) := ⟨_, rfl⟩
      rw [← hw5] at A4 p5b z5b ⊢
      clear hw5
      have B5b := below_next B4 A4
      have k5b := has_below k4 A4 (by omega)
      have v5b := has_below v4 A4 (by omega)
      have q5b := has_below q4 A4 (by omega)
      have S5b := S4.below A4 (by omega)
      have R5b := R4.below A4 (by omega)
      have o5b := o4.below A4 (Nat.le_refl _)
      obtain ⟨s0, r0⟩ := ownAr_sl o5b
      clear k4 v4 q4 S4 R4 o4 A4
      go_cut [11, 12] from 34 to 41 (fun s11 s12 wc => ∃ (kg : Nat) (a3 : Option Addr) (c3 : Nat) (a4 : Option Addr) (c4 : Nat) (Bg Tg : Nat), s11 = .pointer (some ⟨kg, 0, none⟩) ∧ s12 = .bool q ∧ (∀ i, wc.cell? ⟨kg, i, none⟩ = (#[.slice a3 n c3, .int .i64 semj, .int .i64 tohj, .int .i64 topj, .bool cycj, .int .i64 scanj, .int .i64 oldj, .int .i64 copiedj, .int .i64 serialj, .slice a4 m c4] : Array Value)[i]?) ∧ kg < wc.heap.size ∧ w5b.heap.size ≤ kg ∧ OwnAr Bg Tg wc (.slice a3 n c3) (.slice a4 m c4) n m z yj ∧ w5b.heap.size ≤ Bg ∧ Tg ≤ wc.heap.size ∧ (kg < Bg ∨ Tg ≤ kg) ∧ Below w5b.heap.size w5b wc)
      case first =>
        have KP : ∀ V, Below w5b.heap.size w5b V → (Below w5b.heap.size w5b V ∧ (∀ i, V.cell? ⟨w.heap.size, i, none⟩ = (#[.slice aw ws.length cw, .int .i64 semi, .int .i64 toh, .int .i64 top, .bool cyc, .int .i64 scan, .int .i64 old, .int .i64 copied, .int .i64 serial, .slice ar rs.length cr] : Array Value)[i]?) ∧ (∀ i, V.cell? ⟨w.heap.size + 1, i, none⟩ = (#[.int .i64 t, .int .i64 m0] : Array Value)[i]?) ∧ (∀ i, V.cell? ⟨w4.heap.size, i, none⟩ = (#[.slice (some ⟨x3, 0, none⟩) ws.length ws.length, .int .i64 semi, .int .i64 toh, .int .i64 top, .bool cyc, .int .i64 scan, .int .i64 old, .int .i64 copied, .int .i64 serial, .slice (some ⟨x4, 0, none⟩) rs.length rs.length] : Array Value)[i]?)) := fun V hV => ⟨hV, has_below k5b hV (by omega), has_below v5b hV (by omega), has_below p5b hV z5b⟩
        have bd' := (Below.refl w5b.heap.size w5b).drew
        clear k5b v5b p5b q5b S5b R5b o5b HSP
        refine wp_region_held_drew (S := fun V => Below w5b.heap.size w5b V ∧ (∀ i, V.cell? ⟨w.heap.size, i, none⟩ = (#[.slice aw ws.length cw, .int .i64 semi, .int .i64 toh, .int .i64 top, .bool cyc, .int .i64 scan, .int .i64 old, .int .i64 copied, .int .i64 serial, .slice ar rs.length cr] : Array Value)[i]?) ∧ (∀ i, V.cell? ⟨w.heap.size + 1, i, none⟩ = (#[.int .i64 t, .int .i64 m0] : Array Value)[i]?) ∧ (∀ i, V.cell? ⟨w4.heap.size, i, none⟩ = (#[.slice (some ⟨x3, 0, none⟩) ws.length ws.length, .int .i64 semi, .int .i64 toh, .int .i64 top, .bool cyc, .int .i64 scan, .int .i64 old, .int .i64 copied, .int .i64 serial, .slice (some ⟨x4, 0, none⟩) rs.length rs.length] : Array Value)[i]?)) (by kernel_rfl) (KP _ bd') (fun hHeld => ?_)
        obtain ⟨wd, hwd⟩ : ∃ V, V = w5b.drew := ⟨_, rfl⟩
        rw [← hwd] at hHeld ⊢
        have hBd := hHeld.1
        have hqd := hBd.size
        have bwd : Below w5b.heap.size w5b wd := by rw [hwd]; exact (Below.refl _ _).drew
        have sd := s0.below bwd
        have rd := (r0.below bwd (Nat.le_refl _)).here
        clear hwd
        refine wpAnyH_take (i := 0) (oi := { dst := some 35, op := _, type := _, pos := _, after := _, guard := _ }) (v := .agg #[.slice (some ⟨x3, 0, none⟩) ws.length ws.length, .int .i64 semi, .int .i64 toh, .int .i64 top, .bool cyc, .int .i64 scan, .int .i64 old, .int .i64 copied, .int .i64 serial, .slice (some ⟨x4, 0, none⟩) rs.length rs.length]) rfl (by kernel_rfl) (by kernel_rfl) (by kernel_rfl) (fun _ _ _ h => h) (Or.inl ⟨by kernel_rfl, ?_⟩) hHeld ?_
        · intro w hSw
          (try dsimp only at hSw)
          go_simp
        try simp only [Act.put, List.setIfInBounds_toArray, List.set_cons_zero, List.set_cons_succ]
        refine wpAnyH_take (i := 1) (oi := { dst := some 36, op := _, type := _, pos := _, after := _, guard := _ }) (v := .int .i64 r) rfl (by kernel_rfl) (by kernel_rfl) (by kernel_rfl) (fun _ _ _ h => h) (Or.inl ⟨by kernel_rfl, ?_⟩) hHeld ?_
        · intro w hSw
          (try dsimp only at hSw)
          go_simp
        try simp only [Act.put, List.setIfInBounds_toArray, List.set_cons_zero, List.set_cons_succ]
        refine wpAnyH_take (i := 2) (oi := { dst := some 37, op := _, type := _, pos := _, after := _, guard := _ }) (v := .agg #[.int .i64 t, .int .i64 m0]) rfl (by kernel_rfl) (by kernel_rfl) (by kernel_rfl) (fun _ _ _ h => h) (Or.inl ⟨by kernel_rfl, ?_⟩) hHeld ?_
        · intro w hSw
          (try dsimp only at hSw)
          go_simp
        try simp only [Act.put, List.setIfInBounds_toArray, List.set_cons_zero, List.set_cons_succ]
        refine wpAnyH_ready (rs := [3, 8]) (by kernel_rfl) (by simp) ?_
        refine AllReadyH.cons (o := { dst := some 38, op := _, type := _, pos := _, after := _, guard := _ }) rfl (fun K hK => ?_) (AllReadyH.cons (o := { dst := some 11, op := _, type := _, pos := _, after := _, guard := _ }) rfl (fun K hK => ?_) AllReadyH.nil)
        · go_simp
          go_at_call 37
          refine (toVal_any _ _ _).mono ?_
          rintro e w3x ⟨rfl, bb⟩
          have s3x := Sl.below sd bb
          have r3x := (SlF.below rd bb (Nat.le_refl _)).here
          have hBw3x := below_next (w := w5b) hHeld.1 bb
          have hzw3x := bb.size
          clear bb hHeld
          refine hK.out _ _ (KP _ hBw3x) (fun hHeld => ?_)
          clear hK K
          try simp only [Act.put, List.setIfInBounds_toArray, List.set_cons_zero, List.set_cons_succ]
          refine wpAnyH_ready (rs := [4, 8]) (by kernel_rfl) (by simp) ?_
          refine AllReadyH.cons (o := { dst := some 39, op := _, type := _, pos := _, after := _, guard := _ }) rfl (fun K hK => ?_) (AllReadyH.cons (o := { dst := some 11, op := _, type := _, pos := _, after := _, guard := _ }) rfl (fun K hK => ?_) AllReadyH.nil)
          · go_simp
            go_at_call 38
            refine (HIM.out (some ⟨x3, 0, none⟩) ws.length (some ⟨x4, 0, none⟩) rs.length _ _ s3x (Nat.le_refl _) r3x).mono ?_
            rintro e w4x ⟨vw, vr, rfl, o4x, bb⟩
            obtain ⟨a1, c1, rfl⟩ := o4x.sl.1.head
            obtain ⟨a2, c2, rfl⟩ := o4x.sl.2.head
            have hBw4x := below_next (w := w5b) hHeld.1 bb
            have hzw4x := bb.size
            clear bb hHeld
            refine hK.out _ _ (KP _ hBw4x) (fun hHeld => ?_)
            clear hK K
            try simp only [Act.put, List.setIfInBounds_toArray, List.set_cons_zero, List.set_cons_succ]
            refine wpAnyH_take (i := 5) (oi := { dst := some 34, op := _, type := _, pos := _, after := _, guard := _ }) (v := .tuple #[.agg #[.slice a1 n c1, .int .i64 semj, .int .i64 tohj, .int .i64 topj, .bool cycj, .int .i64 scanj, .int .i64 oldj, .int .i64 copiedj, .int .i64 serialj, .slice a2 m c2], .bool q]) rfl (by kernel_rfl) (by kernel_rfl) (by kernel_rfl) (fun _ _ _ h => h) (Or.inl ⟨by kernel_rfl, ?_⟩) hHeld ?_
            · intro w hSw
              (try dsimp only at hSw)
              go_simp
            try simp only [Act.put, List.setIfInBounds_toArray, List.set_cons_zero, List.set_cons_succ]
            refine wpAnyH_take (i := 6) (oi := { dst := some 40, op := _, type := _, pos := _, after := _, guard := _ }) (v := .agg #[.slice a1 n c1, .int .i64 semj, .int .i64 tohj, .int .i64 topj, .bool cycj, .int .i64 scanj, .int .i64 oldj, .int .i64 copiedj, .int .i64 serialj, .slice a2 m c2]) rfl (by kernel_rfl) (by kernel_rfl) (by kernel_rfl) (fun _ _ _ h => h) (Or.inl ⟨by kernel_rfl, ?_⟩) hHeld ?_
            · intro w hSw
              (try dsimp only at hSw)
              go_simp
            try simp only [Act.put, List.setIfInBounds_toArray, List.set_cons_zero, List.set_cons_succ]
            refine wpAnyH_take (i := 7) (oi := { dst := some 41, op := _, type := _, pos := _, after := _, guard := _ }) (v := .bool q) rfl (by kernel_rfl) (by kernel_rfl) (by kernel_rfl) (fun _ _ _ h => h) (Or.inl ⟨by kernel_rfl, ?_⟩) hHeld ?_
            · intro w hSw
              (try dsimp only at hSw)
              go_simp
            try simp only [Act.put, List.setIfInBounds_toArray, List.set_cons_zero, List.set_cons_succ]
            refine wpAnyH_ready (rs := [8]) (by kernel_rfl) (by simp) ?_
            refine AllReadyH.cons (o := { dst := some 11, op := _, type := _, pos := _, after := _, guard := _ }) rfl (fun K hK => ?_) AllReadyH.nil
            go_simp
            have hHa := hHeld.1
            clear hHeld
            refine hK.out _ _ (KP _ (alloc_own hHa _)) (fun hHeld => ?_)
            clear hK K
            try simp only [Act.put, List.setIfInBounds_toArray, List.set_cons_zero, List.set_cons_succ]
            obtain ⟨wa, hwa⟩ : ∃ V, V = w4x.alloc (.cells #[.slice none 0 0, .int .i64 0, .int .i64 0, .int .i64 0, .bool false, .int .i64 0, .int .i64 0, .int .i64 0, .int .i64 0, .slice none 0 0] 30) := ⟨_, rfl⟩
            rw [← hwa] at hHeld ⊢
            have ba : Below w4x.heap.size w4x wa := by rw [hwa]; exact (Below.refl _ _).alloc (Nat.le_refl _) _
            have rz : wa.rowIs w4x.heap.size 30 10 (fun i => (#[.slice none 0 0, .int .i64 0, .int .i64 0, .int .i64 0, .bool false, .int .i64 0, .int .i64 0, .int .i64 0, .int .i64 0, .slice none 0 0] : Array Value).getD i (.bool false)) := by rw [hwa]; exact box_row (C := w4x.heap.size + 1) (Below.refl _ _) (Nat.lt_succ_self _) rfl
            have la : w4x.heap.size < wa.heap.size := World.rowIs.lt rz
            have kl : w5b.heap.size ≤ w4x.heap.size := hHa.size
            have oa := OwnAr.below o4x ba (Nat.le_refl _)
            clear hwa hHa
            obtain ⟨d0, d1, d2, d3, d4, d5, d6, d7, d8, d9⟩ := row10 rz rfl rfl rfl rfl rfl rfl rfl rfl rfl rfl
            simp at d0 d1 d2 d3 d4 d5 d6 d7 d8 d9
            have ez := World.rowIs.frozen rz
            refine wpAnyH_ready (rs := [9]) (by kernel_rfl) (by simp) ?_
            refine AllReadyH.cons (o := { dst := none, op := _, type := _, pos := _, after := _, guard := _ }) rfl (fun K hK => ?_) AllReadyH.nil
            go_simp
            have hHs := hHeld.1
            clear hHeld
            refine hK.out _ _ (KP _ (below_ten hHs kl)) (fun hHeld => ?_)
            clear hK K
            try simp only [Act.put, List.setIfInBounds_toArray, List.set_cons_zero, List.set_cons_succ]
            refine wpAnyH_take (i := 10) (oi := { dst := some 12, op := _, type := _, pos := _, after := _, guard := _ }) (v := .bool q) rfl (by kernel_rfl) (by kernel_rfl) (by kernel_rfl) (fun _ _ _ h => h) (Or.inl ⟨by kernel_rfl, ?_⟩) hHeld ?_
            · intro w hSw
              (try dsimp only at hSw)
              go_simp
            try simp only [Act.put, List.setIfInBounds_toArray, List.set_cons_zero, List.set_cons_succ]
            refine wpAnyH_done (by kernel_rfl) ?_ _
            go_wp2_with fail
            go_meet
            obtain ⟨u1, y1, u2, y2, h1, h2, h3, h4, h5, h6, h7⟩ := oa
            exact ⟨w4x.heap.size, a1, c1, a2, c2, w3x.heap.size, w4x.heap.size, rfl, rfl, cells_ten rz, by simp; omega, kl, ⟨u1, y1, u2, y2, h1, h2, h3, h4, h5, own_ten h6 (by omega), own_ten h7 (by omega)⟩, by omega, by simp <;> omega, by omega, below_ten hHs kl⟩
          · go_simp
            have hHa := hHeld.1
            clear hHeld
            refine hK.out _ _ (KP _ (alloc_own hHa _)) (fun hHeld => ?_)
            clear hK K
            try simp only [Act.put, List.setIfInBounds_toArray, List.set_cons_zero, List.set_cons_succ]
            obtain ⟨wa, hwa⟩ : ∃ V, V = w3x.alloc (.cells #[.slice none 0 0, .int .i64 0, .int .i64 0, .int .i64 0, .bool false, .int .i64 0, .int .i64 0, .int .i64 0, .int .i64 0, .slice none 0 0] 30) := ⟨_, rfl⟩
            rw [← hwa] at hHeld ⊢
            have ba : Below w3x.heap.size w3x wa := by rw [hwa]; exact (Below.refl _ _).alloc (Nat.le_refl _) _
            have rz : wa.rowIs w3x.heap.size 30 10 (fun i => (#[.slice none 0 0, .int .i64 0, .int .i64 0, .int .i64 0, .bool false, .int .i64 0, .int .i64 0, .int .i64 0, .int .i64 0, .slice none 0 0] : Array Value).getD i (.bool false)) := by rw [hwa]; exact box_row (C := w3x.heap.size + 1) (Below.refl _ _) (Nat.lt_succ_self _) rfl
            have la : w3x.heap.size < wa.heap.size := World.rowIs.lt rz
            have kl : w5b.heap.size ≤ w3x.heap.size := hHa.size
            have sa := Sl.below s3x ba
            have ra := (SlF.below r3x ba (Nat.le_refl _)).here
            clear hwa hHa
            refine wpAnyH_ready (rs := [4]) (by kernel_rfl) (by simp) ?_
            refine AllReadyH.cons (o := { dst := some 39, op := _, type := _, pos := _, after := _, guard := _ }) rfl (fun K hK => ?_) AllReadyH.nil
            go_simp
            go_at_call 38
            refine (HIM.out (some ⟨x3, 0, none⟩) ws.length (some ⟨x4, 0, none⟩) rs.length _ _ sa (Nat.le_refl _) ra).mono ?_
            rintro e w4x ⟨vw, vr, rfl, o4x, bb⟩
            obtain ⟨a1, c1, rfl⟩ := o4x.sl.1.head
            obtain ⟨a2, c2, rfl⟩ := o4x.sl.2.head
            have hBw4x := below_next (w := w5b) hHeld.1 bb
            have hzw4x := bb.size
            have rz := World.rowIs.of_block rz (bb.block _ (World.rowIs.lt rz))
            clear bb hHeld
            refine hK.out _ _ (KP _ hBw4x) (fun hHeld => ?_)
            clear hK K
            try simp only [Act.put, List.setIfInBounds_toArray, List.set_cons_zero, List.set_cons_succ]
            refine wpAnyH_take (i := 5) (oi := { dst := some 34, op := _, type := _, pos := _, after := _, guard := _ }) (v := .tuple #[.agg #[.slice a1 n c1, .int .i64 semj, .int .i64 tohj, .int .i64 topj, .bool cycj, .int .i64 scanj, .int .i64 oldj, .int .i64 copiedj, .int .i64 serialj, .slice a2 m c2], .bool q]) rfl (by kernel_rfl) (by kernel_rfl) (by kernel_rfl) (fun _ _ _ h => h) (Or.inl ⟨by kernel_rfl, ?_⟩) hHeld ?_
            · intro w hSw
              (try dsimp only at hSw)
              go_simp
            try simp only [Act.put, List.setIfInBounds_toArray, List.set_cons_zero, List.set_cons_succ]
            refine wpAnyH_take (i := 6) (oi := { dst := some 40, op := _, type := _, pos := _, after := _, guard := _ }) (v := .agg #[.slice a1 n c1, .int .i64 semj, .int .i64 tohj, .int .i64 topj, .bool cycj, .int .i64 scanj, .int .i64 oldj, .int .i64 copiedj, .int .i64 serialj, .slice a2 m c2]) rfl (by kernel_rfl) (by kernel_rfl) (by kernel_rfl) (fun _ _ _ h => h) (Or.inl ⟨by kernel_rfl, ?_⟩) hHeld ?_
            · intro w hSw
              (try dsimp only at hSw)
              go_simp
            try simp only [Act.put, List.setIfInBounds_toArray, List.set_cons_zero, List.set_cons_succ]
            refine wpAnyH_take (i := 7) (oi := { dst := some 41, op := _, type := _, pos := _, after := _, guard := _ }) (v := .bool q) rfl (by kernel_rfl) (by kernel_rfl) (by kernel_rfl) (fun _ _ _ h => h) (Or.inl ⟨by kernel_rfl, ?_⟩) hHeld ?_
            · intro w hSw
              (try dsimp only at hSw)
              go_simp
            try simp only [Act.put, List.setIfInBounds_toArray, List.set_cons_zero, List.set_cons_succ]
            obtain ⟨d0, d1, d2, d3, d4, d5, d6, d7, d8, d9⟩ := row10 rz rfl rfl rfl rfl rfl rfl rfl rfl rfl rfl
            simp at d0 d1 d2 d3 d4 d5 d6 d7 d8 d9
            have ez := World.rowIs.frozen rz
            refine wpAnyH_ready (rs := [9]) (by kernel_rfl) (by simp) ?_
            refine AllReadyH.cons (o := { dst := none, op := _, type := _, pos := _, after := _, guard := _ }) rfl (fun K hK => ?_) AllReadyH.nil
            go_simp
            have hHs := hHeld.1
            clear hHeld
            refine hK.out _ _ (KP _ (below_ten hHs kl)) (fun hHeld => ?_)
            clear hK K
            try simp only [Act.put, List.setIfInBounds_toArray, List.set_cons_zero, List.set_cons_succ]
            refine wpAnyH_take (i := 10) (oi := { dst := some 12, op := _, type := _, pos := _, after := _, guard := _ }) (v := .bool q) rfl (by kernel_rfl) (by kernel_rfl) (by kernel_rfl) (fun _ _ _ h => h) (Or.inl ⟨by kernel_rfl, ?_⟩) hHeld ?_
            · intro w hSw
              (try dsimp only at hSw)
              go_simp
            try simp only [Act.put, List.setIfInBounds_toArray, List.set_cons_zero, List.set_cons_succ]
            refine wpAnyH_done (by kernel_rfl) ?_ _
            go_wp2_with fail
            go_meet
            obtain ⟨u1, y1, u2, y2, h1, h2, h3, h4, h5, h6, h7⟩ := o4x
            exact ⟨w3x.heap.size, a1, c1, a2, c2, wa.heap.size, w4x.heap.size, rfl, rfl, cells_ten rz, by simp; omega, kl, ⟨u1, y1, u2, y2, h1, h2, h3, h4, h5, own_ten h6 (by omega), own_ten h7 (by omega)⟩, by omega, by simp <;> omega, by omega, below_ten hHs kl⟩
        · go_simp
          have hHa := hHeld.1
          clear hHeld
          refine hK.out _ _ (KP _ (alloc_own hHa _)) (fun hHeld => ?_)
          clear hK K
          try simp only [Act.put, List.setIfInBounds_toArray, List.set_cons_zero, List.set_cons_succ]
          obtain ⟨wa, hwa⟩ : ∃ V, V = wd.alloc (.cells #[.slice none 0 0, .int .i64 0, .int .i64 0, .int .i64 0, .bool false, .int .i64 0, .int .i64 0, .int .i64 0, .int .i64 0, .slice none 0 0] 30) := ⟨_, rfl⟩
          rw [← hwa] at hHeld ⊢
          have ba : Below wd.heap.size wd wa := by rw [hwa]; exact (Below.refl _ _).alloc (Nat.le_refl _) _
          have rz : wa.rowIs wd.heap.size 30 10 (fun i => (#[.slice none 0 0, .int .i64 0, .int .i64 0, .int .i64 0, .bool false, .int .i64 0, .int .i64 0, .int .i64 0, .int .i64 0, .slice none 0 0] : Array Value).getD i (.bool false)) := by rw [hwa]; exact box_row (C := wd.heap.size + 1) (Below.refl _ _) (Nat.lt_succ_self _) rfl
          have la : wd.heap.size < wa.heap.size := World.rowIs.lt rz
          have kl : w5b.heap.size ≤ wd.heap.size := hHa.size
          have sa := Sl.below sd ba
          have ra := (SlF.below rd ba (Nat.le_refl _)).here
          clear hwa hHa
          refine wpAnyH_ready (rs := [3]) (by kernel_rfl) (by simp) ?_
          refine AllReadyH.cons (o := { dst := some 38, op := _, type := _, pos := _, after := _, guard := _ }) rfl (fun K hK => ?_) AllReadyH.nil
          go_simp
          go_at_call 37
          refine (toVal_any _ _ _).mono ?_
          rintro e w3x ⟨rfl, bb⟩
          have s3x := Sl.below sa bb
          have r3x := (SlF.below ra bb (Nat.le_refl _)).here
          have hBw3x := below_next (w := w5b) hHeld.1 bb
          have hzw3x := bb.size
          have rz := World.rowIs.of_block rz (bb.block _ (World.rowIs.lt rz))
          clear bb hHeld
          refine hK.out _ _ (KP _ hBw3x) (fun hHeld => ?_)
          clear hK K
          try simp only [Act.put, List.setIfInBounds_toArray, List.set_cons_zero, List.set_cons_succ]
          refine wpAnyH_ready (rs := [4]) (by kernel_rfl) (by simp) ?_
          refine AllReadyH.cons (o := { dst := some 39, op := _, type := _, pos := _, after := _, guard := _ }) rfl (fun K hK => ?_) AllReadyH.nil
          go_simp
          go_at_call 38
          refine (HIM.out (some ⟨x3, 0, none⟩) ws.length (some ⟨x4, 0, none⟩) rs.length _ _ s3x (Nat.le_refl _) r3x).mono ?_
          rintro e w4x ⟨vw, vr, rfl, o4x, bb⟩
          obtain ⟨a1, c1, rfl⟩ := o4x.sl.1.head
          obtain ⟨a2, c2, rfl⟩ := o4x.sl.2.head
          have hBw4x := below_next (w := w5b) hHeld.1 bb
          have hzw4x := bb.size
          have rz := World.rowIs.of_block rz (bb.block _ (World.rowIs.lt rz))
          clear bb hHeld
          refine hK.out _ _ (KP _ hBw4x) (fun hHeld => ?_)
          clear hK K
          try simp only [Act.put, List.setIfInBounds_toArray, List.set_cons_zero, List.set_cons_succ]
          refine wpAnyH_take (i := 5) (oi := { dst := some 34, op := _, type := _, pos := _, after := _, guard := _ }) (v := .tuple #[.agg #[.slice a1 n c1, .int .i64 semj, .int .i64 tohj, .int .i64 topj, .bool cycj, .int .i64 scanj, .int .i64 oldj, .int .i64 copiedj, .int .i64 serialj, .slice a2 m c2], .bool q]) rfl (by kernel_rfl) (by kernel_rfl) (by kernel_rfl) (fun _ _ _ h => h) (Or.inl ⟨by kernel_rfl, ?_⟩) hHeld ?_
          · intro w hSw
            (try dsimp only at hSw)
            go_simp
          try simp only [Act.put, List.setIfInBounds_toArray, List.set_cons_zero, List.set_cons_succ]
          refine wpAnyH_take (i := 6) (oi := { dst := some 40, op := _, type := _, pos := _, after := _, guard := _ }) (v := .agg #[.slice a1 n c1, .int .i64 semj, .int .i64 tohj, .int .i64 topj, .bool cycj, .int .i64 scanj, .int .i64 oldj, .int .i64 copiedj, .int .i64 serialj, .slice a2 m c2]) rfl (by kernel_rfl) (by kernel_rfl) (by kernel_rfl) (fun _ _ _ h => h) (Or.inl ⟨by kernel_rfl, ?_⟩) hHeld ?_
          · intro w hSw
            (try dsimp only at hSw)
            go_simp
          try simp only [Act.put, List.setIfInBounds_toArray, List.set_cons_zero, List.set_cons_succ]
          refine wpAnyH_take (i := 7) (oi := { dst := some 41, op := _, type := _, pos := _, after := _, guard := _ }) (v := .bool q) rfl (by kernel_rfl) (by kernel_rfl) (by kernel_rfl) (fun _ _ _ h => h) (Or.inl ⟨by kernel_rfl, ?_⟩) hHeld ?_
          · intro w hSw
            (try dsimp only at hSw)
            go_simp
          try simp only [Act.put, List.setIfInBounds_toArray, List.set_cons_zero, List.set_cons_succ]
          obtain ⟨d0, d1, d2, d3, d4, d5, d6, d7, d8, d9⟩ := row10 rz rfl rfl rfl rfl rfl rfl rfl rfl rfl rfl
          simp at d0 d1 d2 d3 d4 d5 d6 d7 d8 d9
          have ez := World.rowIs.frozen rz
          refine wpAnyH_ready (rs := [9]) (by kernel_rfl) (by simp) ?_
          refine AllReadyH.cons (o := { dst := none, op := _, type := _, pos := _, after := _, guard := _ }) rfl (fun K hK => ?_) AllReadyH.nil
          go_simp
          have hHs := hHeld.1
          clear hHeld
          refine hK.out _ _ (KP _ (below_ten hHs kl)) (fun hHeld => ?_)
          clear hK K
          try simp only [Act.put, List.setIfInBounds_toArray, List.set_cons_zero, List.set_cons_succ]
          refine wpAnyH_take (i := 10) (oi := { dst := some 12, op := _, type := _, pos := _, after := _, guard := _ }) (v := .bool q) rfl (by kernel_rfl) (by kernel_rfl) (by kernel_rfl) (fun _ _ _ h => h) (Or.inl ⟨by kernel_rfl, ?_⟩) hHeld ?_
          · intro w hSw
            (try dsimp only at hSw)
            go_simp
          try simp only [Act.put, List.setIfInBounds_toArray, List.set_cons_zero, List.set_cons_succ]
          refine wpAnyH_done (by kernel_rfl) ?_ _
          go_wp2_with fail
          go_meet
          obtain ⟨u1, y1, u2, y2, h1, h2, h3, h4, h5, h6, h7⟩ := o4x
          exact ⟨wd.heap.size, a1, c1, a2, c2, w3x.heap.size, w4x.heap.size, rfl, rfl, cells_ten rz, by simp; omega, kl, ⟨u1, y1, u2, y2, h1, h2, h3, h4, h5, own_ten h6 (by omega), own_ten h7 (by omega)⟩, by omega, by simp <;> omega, by omega, below_ten hHs kl⟩
      case rest =>
      rename World => w5
      obtain ⟨kg, a3, c3, a4, c4, Bg, Tg, rfl, rfl, g5, lg5, lk5, o5, hBg, hTg, hkg, b5⟩ := hcut
      have B5 := below_next B5b b5
      have k5 := has_below k5b b5 (by omega)
      have v5 := has_below v5b b5 (by omega)
      have q5 := has_below q5b b5 (by omega)
      have p5 := has_below p5b b5 z5b
      have z5 := b5.size
      have S5 := S5b.below b5 (by omega)
      have R5 := R5b.below b5 (by omega)
      have ox5 := o5b.below b5 (by omega)
      clear k5b v5b q5b p5b S5b R5b o5b b5 s0 r0
      go_wp2_with fail
      refine (eqArena_same _ _ _ _ _ _ _ _ n m z yj _ _ _ _ _ _ _ _ _ o5.sl.1 S5 hnn o5.sl.2 R5 hmm).mono ?_
      rintro e w6 ⟨rfl, b6⟩
      have B6 := below_next B5 b6
      have k6 := has_below k5 b6 (by omega)
      have v6 := has_below v5 b6 (by omega)
      have q6 := has_below q5 b6 (by omega)
      have p6 := has_below p5 b6 (by omega)
      have g6 := has_below g5 b6 lg5
      have z6 := b6.size
      have o6 := o5.below b6 hTg
      have ox := ox5.below b6 (by omega)
      have S6 := S5.below b6 (by omega)
      have R6 := R5.below b6 (by omega)
      clear k5 v5 q5 p5 g5 b6 o5 ox5 S5 R5
      go_wp2_with fail
      have KP : ∀ V, Below w6.heap.size w6 V → (Below w6.heap.size w6 V ∧ (∀ i, V.cell? ⟨w.heap.size, i, none⟩ = (#[.slice aw ws.length cw, .int .i64 semi, .int .i64 toh, .int .i64 top, .bool cyc, .int .i64 scan, .int .i64 old, .int .i64 copied, .int .i64 serial, .slice ar rs.length cr] : Array Value)[i]?) ∧ (∀ i, V.cell? ⟨w4.heap.size, i, none⟩ = (#[.slice (some ⟨x3, 0, none⟩) ws.length ws.length, .int .i64 semi, .int .i64 toh, .int .i64 top, .bool cyc, .int .i64 scan, .int .i64 old, .int .i64 copied, .int .i64 serial, .slice (some ⟨x4, 0, none⟩) rs.length rs.length] : Array Value)[i]?)) := fun V hV => ⟨hV, has_below k6 hV (by omega), has_below p6 hV (by omega)⟩
      have b6' := (Below.refl w6.heap.size w6).drew
      have HK : Hid (∀ V, Below w6.heap.size w6 V → (∀ i, V.cell? ⟨w.heap.size, i, none⟩ = (#[.slice aw ws.length cw, .int .i64 semi, .int .i64 toh, .int .i64 top, .bool cyc, .int .i64 scan, .int .i64 old, .int .i64 copied, .int .i64 serial, .slice ar rs.length cr] : Array Value)[i]?) ∧ (∀ i, V.cell? ⟨w.heap.size + 1, i, none⟩ = (#[.int .i64 t, .int .i64 m0] : Array Value)[i]?) ∧ (∀ i, V.cell? ⟨kb, i, none⟩ = (#[.slice a1 n c1, .int .i64 semj, .int .i64 tohj, .int .i64 topj, .bool cycj, .int .i64 scanj, .int .i64 oldj, .int .i64 copiedj, .int .i64 serialj, .slice a2 m c2] : Array Value)[i]?) ∧ (∀ i, V.cell? ⟨w4.heap.size, i, none⟩ = (#[.slice (some ⟨x3, 0, none⟩) ws.length ws.length, .int .i64 semi, .int .i64 toh, .int .i64 top, .bool cyc, .int .i64 scan, .int .i64 old, .int .i64 copied, .int .i64 serial, .slice (some ⟨x4, 0, none⟩) rs.length rs.length] : Array Value)[i]?) ∧ (∀ i, V.cell? ⟨kg, i, none⟩ = (#[.slice a3 n c3, .int .i64 semj, .int .i64 tohj, .int .i64 topj, .bool cycj, .int .i64 scanj, .int .i64 oldj, .int .i64 copiedj, .int .i64 serialj, .slice a4 m c4] : Array Value)[i]?)) := fun V hV => ⟨has_below k6 hV (by omega), has_below v6 hV (by omega), has_below q6 hV (by omega), has_below p6 hV (by omega), has_below g6 hV (by omega)⟩
      have F6 := ox.sl.1
      have R6' := ox.sl.2
      have HS6 : Hid (SlF w3.heap.size w6 (.slice a1 n c1) n n (fun i => .int .u64 (z i))) := S6
      have HR6 : Hid (SlF w3.heap.size w6 (.slice a2 m c2) m (2 * m) (fun i => .int .i64 (yj i))) := R6
      have Ho6 : Hid (OwnAr Bg Tg w6 (.slice a3 n c3) (.slice a4 m c4) n m z yj) := o6
      have Hox : Hid (OwnAr w3.heap.size w4.heap.size w6 (.slice (some ⟨x3, 0, none⟩) ws.length ws.length) (.slice (some ⟨x4, 0, none⟩) rs.length rs.length) ws.length rs.length (wordAt ws) y) := ox
      clear k6 v6 q6 p6 g6 HSP S6 R6 o6 ox
      go_region_held3 (fun V => Below w6.heap.size w6 V ∧ (∀ i, V.cell? ⟨w.heap.size, i, none⟩ = (#[.slice aw ws.length cw, .int .i64 semi, .int .i64 toh, .int .i64 top, .bool cyc, .int .i64 scan, .int .i64 old, .int .i64 copied, .int .i64 serial, .slice ar rs.length cr] : Array Value)[i]?) ∧ (∀ i, V.cell? ⟨w4.heap.size, i, none⟩ = (#[.slice (some ⟨x3, 0, none⟩) ws.length ws.length, .int .i64 semi, .int .i64 toh, .int .i64 top, .bool cyc, .int .i64 scan, .int .i64 old, .int .i64 copied, .int .i64 serial, .slice (some ⟨x4, 0, none⟩) rs.length rs.length] : Array Value)[i]?)) (first | assumption | exact KP _ b6' | exact KP _ (by assumption)) (first | (go_at_call 22; refine (HTA.out _ (below_next B6 (And.left (by assumption)))).mono ?_; rintro e w7 ⟨x5, x6, rfl, o7, bb⟩; have hB7 := below_next (w := w6) (And.left (by assumption)) bb; clear bb) | (go_at_call 24; refine (eqArena_same _ _ _ _ _ _ _ _ ws.length rs.length (wordAt ws) y _ _ _ _ _ _ _ _ _ (F6.below hB7 (by omega)) o7.sl.1 hn (R6'.below hB7 (by omega)) o7.sl.2 hn2).mono ?_; rintro e w8 ⟨rfl, bb⟩; have hB8 := below_next (w := w6) hB7 bb; clear bb))
      all_goals
        have B8 := below_next B6 hB8
        obtain ⟨k8, v8, q8, p8, g8⟩ := HK.out _ hB8
        have z8 := hB8.size
        have o8 := Ho6.out.below hB8 (by omega)
        have ox8 := Hox.out.below hB8 (by omega)
        have S8 := HS6.out.below hB8 (by omega)
        have R8 := HR6.out.below hB8 (by omega)
        clear HK KP hB7 hB8 o7 F6 R6' HS6 HR6 Ho6 Hox b6'
        obtain ⟨y1, t1, y2, t2, g1, g2, g3, g4, g5, gg6, g7⟩ := ox8
        go_wp2_with fail
        refine (markArena_any y1 t1 y2 t2 w3.heap.size w4.heap.size _ _ ws.length rs.length (wordAt ws) y _ _ _ _ _ _ _ _ _ gg6 hn g7 hn2 g5 (by omega) g2 (by omega) g4 (by omega)).mono ?_
        rintro e w9 ⟨rfl, _, _, A9⟩
        have k9 := has_apart k8 A9 (by omega) (by omega)
        have v9 := has_apart v8 A9 (by omega) (by omega)
        have q9 := has_apart q8 A9 (by omega) (by omega)
        have g9 := has_apart g8 A9 (by omega) (by omega)
        have S9 := S8.apart A9 (by omega)
        have R9 := R8.apart A9 (by omega)
        have zb := B3.size
        have B9 := B8.trans (A9.below (by omega) (by omega))
        have z9 := A9.size
        have o9 := ownAr_apart o8 A9 (by omega)
        clear k8 v8 q8 p8 g8 S8 R8 A9 gg6 g7 o8
        go_wp2_with fail
        refine (eqArena_same _ _ _ _ _ _ _ _ n m z yj _ _ _ _ _ _ _ _ _ o9.sl.1 S9 hnn o9.sl.2 R9 hmm).mono ?_
        rintro e w10 ⟨rfl, b10⟩
        have B10 := below_next B9 b10
        have z10 := b10.size
        have k10 := has_below k9 b10 (by omega)
        have v10 := has_below v9 b10 (by omega)
        have q10 := has_below q9 b10 (by omega)
        have g10 := has_below g9 b10 (by omega)
        have S10 := S9.below b10 (by omega)
        have R10 := R9.below b10 (by omega)
        have o10 := o9.below b10 (by omega)
        clear k9 v9 q9 g9 S9 R9 o9 b10
        obtain ⟨u1, y1', u2, y2', i1, i2, i3, i4, i5, i6, i7⟩ := o10
        go_wp2_with fail
        refine (markArena_any u1 y1' u2 y2' Bg Tg _ _ n m z yj _ _ _ _ _ _ _ _ _ i6 hnn i7 hmm i5 (by omega) i2 (by omega) i4 (by omega)).mono ?_
        rintro e w11 ⟨rfl, h11, r11, A11⟩
        have k11 := has_apart k10 A11 (by omega) (by omega)
        have v11 := has_apart v10 A11 (by omega) (by omega)
        have q11 := has_apart q10 A11 (by omega) (by omega)
        have g11 := has_apart g10 A11 (by omega) (by omega)
        have S11 := S10.apart A11 (by omega)
        have R11 := R10.apart A11 (by omega)
        have B11 := B10.trans (A11.below (by omega) (by omega))
        have z11 := A11.size
        clear k10 v10 q10 g10 S10 R10 A11 i6 i7
        go_wp2_with fail
        refine (heldArena_any _ _ _ _ n m _ _ _ _ _ _ _ _ _ h11.sl hnn r11.sl hmm).mono ?_
        rintro e w12 ⟨rfl, b12⟩
        have z12 := b12.size
        have k12 := has_below k11 b12 (by omega)
        have v12 := has_below v11 b12 (by omega)
        have q12 := has_below q11 b12 (by omega)
        have g12 := has_below g11 b12 (by omega)
        have h12 := h11.below b12 (by omega)
        have r12 := r11.below b12 (by omega)
        have S12 := S11.below b12 (by omega)
        have R12 := R11.below b12 (by omega)
        have B12 := below_next B11 b12
        clear k11 v11 q11 g11 h11 r11 S11 R11 b12
        go_wp2_with fail
        go_cut [16, 17] from 83 to 91 (fun s16 s17 wc => ∃ (kh : Nat) (a5 : Option Addr) (c5 : Nat) (a6 : Option Addr) (c6 : Nat), s16 = .pointer (some ⟨kh, 0, none⟩) ∧ s17 = .bool q ∧ (∀ i, wc.cell? ⟨kh, i, none⟩ = (#[.slice a5 n c5, .int .i64 semj, .int .i64 tohj, .int .i64 topj, .bool cycj, .int .i64 scanj, .int .i64 oldj, .int .i64 copiedj, .int .i64 serialj, .slice a6 m c6] : Array Value)[i]?) ∧ kh < wc.heap.size ∧ SlF wc.heap.size wc (.slice a5 n c5) n n (fun i => .int .u64 (z i)) ∧ SlF wc.heap.size wc (.slice a6 m c6) m (2 * m) (fun i => .int .i64 (yj i)) ∧ Below w12.heap.size w12 wc)
        case first =>
          have KP : ∀ V, Below w12.heap.size w12 V → (Below w12.heap.size w12 V ∧ (∀ i, V.cell? ⟨w.heap.size, i, none⟩ = (#[.slice aw ws.length cw, .int .i64 semi, .int .i64 toh, .int .i64 top, .bool cyc, .int .i64 scan, .int .i64 old, .int .i64 copied, .int .i64 serial, .slice ar rs.length cr] : Array Value)[i]?) ∧ (∀ i, V.cell? ⟨w.heap.size + 1, i, none⟩ = (#[.int .i64 t, .int .i64 m0] : Array Value)[i]?)) := fun V hV => ⟨hV, has_below k12 hV (by omega), has_below v12 hV (by omega)⟩
          have bd' := (Below.refl w12.heap.size w12).drew
          clear k12 v12 q12 g12 h12 r12 S12 R12
          refine wp_region_held_drew (S := fun V => Below w12.heap.size w12 V ∧ (∀ i, V.cell? ⟨w.heap.size, i, none⟩ = (#[.slice aw ws.length cw, .int .i64 semi, .int .i64 toh, .int .i64 top, .bool cyc, .int .i64 scan, .int .i64 old, .int .i64 copied, .int .i64 serial, .slice ar rs.length cr] : Array Value)[i]?) ∧ (∀ i, V.cell? ⟨w.heap.size + 1, i, none⟩ = (#[.int .i64 t, .int .i64 m0] : Array Value)[i]?)) (by kernel_rfl) (KP _ bd') (fun hHeld => ?_)
          obtain ⟨wd, hwd⟩ : ∃ V, V = w12.drew := ⟨_, rfl⟩
          rw [← hwd] at hHeld ⊢
          have hBd := hHeld.1
          have hqd := hBd.size
          clear hwd
          refine wpAnyH_take (i := 0) (oi := { dst := some 84, op := _, type := _, pos := _, after := _, guard := _ }) (v := .agg #[.slice aw ws.length cw, .int .i64 semi, .int .i64 toh, .int .i64 top, .bool cyc, .int .i64 scan, .int .i64 old, .int .i64 copied, .int .i64 serial, .slice ar rs.length cr]) rfl (by kernel_rfl) (by kernel_rfl) (by kernel_rfl) (fun _ _ _ h => h) (Or.inl ⟨by kernel_rfl, ?_⟩) hHeld ?_
          · intro w hSw
            (try dsimp only at hSw)
            go_simp
          try simp only [Act.put, List.setIfInBounds_toArray, List.set_cons_zero, List.set_cons_succ]
          refine wpAnyH_take (i := 2) (oi := { dst := some 86, op := _, type := _, pos := _, after := _, guard := _ }) (v := .int .i64 r) rfl (by kernel_rfl) (by kernel_rfl) (by kernel_rfl) (fun _ _ _ h => h) (Or.inl ⟨by kernel_rfl, ?_⟩) hHeld ?_
          · intro w hSw
            (try dsimp only at hSw)
            go_simp
          try simp only [Act.put, List.setIfInBounds_toArray, List.set_cons_zero, List.set_cons_succ]
          refine wpAnyH_take (i := 3) (oi := { dst := some 87, op := _, type := _, pos := _, after := _, guard := _ }) (v := .agg #[.int .i64 t, .int .i64 m0]) rfl (by kernel_rfl) (by kernel_rfl) (by kernel_rfl) (fun _ _ _ h => h) (Or.inl ⟨by kernel_rfl, ?_⟩) hHeld ?_
          · intro w hSw
            (try dsimp only at hSw)
            go_simp
          try simp only [Act.put, List.setIfInBounds_toArray, List.set_cons_zero, List.set_cons_succ]
          refine wpAnyH_ready (rs := [1, 9]) (by kernel_rfl) (by simp) ?_
          refine AllReadyH.cons (o := { dst := some 85, op := _, type := _, pos := _, after := _, guard := _ }) rfl (fun K hK => ?_) (AllReadyH.cons (o := { dst := some 16, op := _, type := _, pos := _, after := _, guard := _ }) rfl (fun K hK => ?_) AllReadyH.nil)
          · go_simp
            go_at_call 22
            refine (HTA.out _ (below_next B12 hHeld.1)).mono ?_
            rintro e w2x ⟨x1, x2, rfl, o2, bb⟩
            obtain ⟨s2x, r2x⟩ := ownAr_sl o2
            clear o2
            have hBw2x := below_next (w := w12) hHeld.1 bb
            have hzw2x := bb.size
            clear bb hHeld
            refine hK.out _ _ (KP _ hBw2x) (fun hHeld => ?_)
            clear hK K
            try simp only [Act.put, List.setIfInBounds_toArray, List.set_cons_zero, List.set_cons_succ]
            refine wpAnyH_ready (rs := [4, 9]) (by kernel_rfl) (by simp) ?_
            refine AllReadyH.cons (o := { dst := some 88, op := _, type := _, pos := _, after := _, guard := _ }) rfl (fun K hK => ?_) (AllReadyH.cons (o := { dst := some 16, op := _, type := _, pos := _, after := _, guard := _ }) rfl (fun K hK => ?_) AllReadyH.nil)
            · go_simp
              go_at_call 37
              refine (toVal_any _ _ _).mono ?_
              rintro e w3x ⟨rfl, bb⟩
              have s3x := Sl.below s2x bb
              have r3x := (SlF.below r2x bb (Nat.le_refl _)).here
              have hBw3x := below_next (w := w12) hHeld.1 bb
              have hzw3x := bb.size
              clear bb hHeld
              refine hK.out _ _ (KP _ hBw3x) (fun hHeld => ?_)
              clear hK K
              try simp only [Act.put, List.setIfInBounds_toArray, List.set_cons_zero, List.set_cons_succ]
              refine wpAnyH_ready (rs := [5, 9]) (by kernel_rfl) (by simp) ?_
              refine AllReadyH.cons (o := { dst := some 89, op := _, type := _, pos := _, after := _, guard := _ }) rfl (fun K hK => ?_) (AllReadyH.cons (o := { dst := some 16, op := _, type := _, pos := _, after := _, guard := _ }) rfl (fun K hK => ?_) AllReadyH.nil)
              · go_simp
                go_at_call 38
                refine (HIM.out (some ⟨x1, 0, none⟩) ws.length (some ⟨x2, 0, none⟩) rs.length _ _ s3x (Nat.le_refl _) r3x).mono ?_
                rintro e w4x ⟨vw, vr, rfl, o4x, bb⟩
                obtain ⟨a1, c1, rfl⟩ := o4x.sl.1.head
                obtain ⟨a2, c2, rfl⟩ := o4x.sl.2.head
                have hBw4x := below_next (w := w12) hHeld.1 bb
                have hzw4x := bb.size
                clear bb hHeld
                refine hK.out _ _ (KP _ hBw4x) (fun hHeld => ?_)
                clear hK K
                try simp only [Act.put, List.setIfInBounds_toArray, List.set_cons_zero, List.set_cons_succ]
                refine wpAnyH_take (i := 6) (oi := { dst := some 83, op := _, type := _, pos := _, after := _, guard := _ }) (v := .tuple #[.agg #[.slice a1 n c1, .int .i64 semj, .int .i64 tohj, .int .i64 topj, .bool cycj, .int .i64 scanj, .int .i64 oldj, .int .i64 copiedj, .int .i64 serialj, .slice a2 m c2], .bool q]) rfl (by kernel_rfl) (by kernel_rfl) (by kernel_rfl) (fun _ _ _ h => h) (Or.inl ⟨by kernel_rfl, ?_⟩) hHeld ?_
                · intro w hSw
                  (try dsimp only at hSw)
                  go_simp
                try simp only [Act.put, List.setIfInBounds_toArray, List.set_cons_zero, List.set_cons_succ]
                refine wpAnyH_take (i := 7) (oi := { dst := some 90, op := _, type := _, pos := _, after := _, guard := _ }) (v := .agg #[.slice a1 n c1, .int .i64 semj, .int .i64 tohj, .int .i64 topj, .bool cycj, .int .i64 scanj, .int .i64 oldj, .int .i64 copiedj, .int .i64 serialj, .slice a2 m c2]) rfl (by kernel_rfl) (by kernel_rfl) (by kernel_rfl) (fun _ _ _ h => h) (Or.inl ⟨by kernel_rfl, ?_⟩) hHeld ?_
                · intro w hSw
                  (try dsimp only at hSw)
                  go_simp
                try simp only [Act.put, List.setIfInBounds_toArray, List.set_cons_zero, List.set_cons_succ]
                refine wpAnyH_take (i := 8) (oi := { dst := some 91, op := _, type := _, pos := _, after := _, guard := _ }) (v := .bool q) rfl (by kernel_rfl) (by kernel_rfl) (by kernel_rfl) (fun _ _ _ h => h) (Or.inl ⟨by kernel_rfl, ?_⟩) hHeld ?_
                · intro w hSw
                  (try dsimp only at hSw)
                  go_simp
                try simp only [Act.put, List.setIfInBounds_toArray, List.set_cons_zero, List.set_cons_succ]
                refine wpAnyH_ready (rs := [9]) (by kernel_rfl) (by simp) ?_
                refine AllReadyH.cons (o := { dst := some 16, op := _, type := _, pos := _, after := _, guard := _ }) rfl (fun K hK => ?_) AllReadyH.nil
                go_simp
                have hHa := hHeld.1
                clear hHeld
                refine hK.out _ _ (KP _ (alloc_own hHa _)) (fun hHeld => ?_)
                clear hK K
                try simp only [Act.put, List.setIfInBounds_toArray, List.set_cons_zero, List.set_cons_succ]
                obtain ⟨wa, hwa⟩ : ∃ V, V = w4x.alloc (.cells #[.slice none 0 0, .int .i64 0, .int .i64 0, .int .i64 0, .bool false, .int .i64 0, .int .i64 0, .int .i64 0, .int .i64 0, .slice none 0 0] 30) := ⟨_, rfl⟩
                rw [← hwa] at hHeld ⊢
                have ba : Below w4x.heap.size w4x wa := by rw [hwa]; exact (Below.refl _ _).alloc (Nat.le_refl _) _
                have rz : wa.rowIs w4x.heap.size 30 10 (fun i => (#[.slice none 0 0, .int .i64 0, .int .i64 0, .int .i64 0, .bool false, .int .i64 0, .int .i64 0, .int .i64 0, .int .i64 0, .slice none 0 0] : Array Value).getD i (.bool false)) := by rw [hwa]; exact box_row (C := w4x.heap.size + 1) (Below.refl _ _) (Nat.lt_succ_self _) rfl
                have la : w4x.heap.size < wa.heap.size := World.rowIs.lt rz
                have kl : w12.heap.size ≤ w4x.heap.size := hHa.size
                have oa := OwnAr.below o4x ba (Nat.le_refl _)
                clear hwa hHa
                obtain ⟨d0, d1, d2, d3, d4, d5, d6, d7, d8, d9⟩ := row10 rz rfl rfl rfl rfl rfl rfl rfl rfl rfl rfl
                simp at d0 d1 d2 d3 d4 d5 d6 d7 d8 d9
                have ez := World.rowIs.frozen rz
                refine wpAnyH_ready (rs := [10]) (by kernel_rfl) (by simp) ?_
                refine AllReadyH.cons (o := { dst := none, op := _, type := _, pos := _, after := _, guard := _ }) rfl (fun K hK => ?_) AllReadyH.nil
                go_simp
                have hHs := hHeld.1
                clear hHeld
                refine hK.out _ _ (KP _ (below_ten hHs kl)) (fun hHeld => ?_)
                clear hK K
                try simp only [Act.put, List.setIfInBounds_toArray, List.set_cons_zero, List.set_cons_succ]
                refine wpAnyH_take (i := 11) (oi := { dst := some 17, op := _, type := _, pos := _, after := _, guard := _ }) (v := .bool q) rfl (by kernel_rfl) (by kernel_rfl) (by kernel_rfl) (fun _ _ _ h => h) (Or.inl ⟨by kernel_rfl, ?_⟩) hHeld ?_
                · intro w hSw
                  (try dsimp only at hSw)
                  go_simp
                try simp only [Act.put, List.setIfInBounds_toArray, List.set_cons_zero, List.set_cons_succ]
                refine wpAnyH_done (by kernel_rfl) ?_ _
                go_wp2_with fail
                go_meet
                obtain ⟨u1, y1, u2, y2, h1, h2, h3, h4, h5, h6, h7⟩ := oa
                exact ⟨w4x.heap.size, a1, c1, a2, c2, rfl, rfl, cells_ten rz, by simp; omega, (own_ten h6 (by omega)).sl.here, (own_ten h7 (by omega)).sl.here, below_ten hHs kl⟩
              · go_simp
                have hHa := hHeld.1
                clear hHeld
                refine hK.out _ _ (KP _ (alloc_own hHa _)) (fun hHeld => ?_)
                clear hK K
                try simp only [Act.put, List.setIfInBounds_toArray, List.set_cons_zero, List.set_cons_succ]
                obtain ⟨wa, hwa⟩ : ∃ V, V = w3x.alloc (.cells #[.slice none 0 0, .int .i64 0, .int .i64 0, .int .i64 0, .bool false, .int .i64 0, .int .i64 0, .int .i64 0, .int .i64 0, .slice none 0 0] 30) := ⟨_, rfl⟩
                rw [← hwa] at hHeld ⊢
                have ba : Below w3x.heap.size w3x wa := by rw [hwa]; exact (Below.refl _ _).alloc (Nat.le_refl _) _
                have rz : wa.rowIs w3x.heap.size 30 10 (fun i => (#[.slice none 0 0, .int .i64 0, .int .i64 0, .int .i64 0, .bool false, .int .i64 0, .int .i64 0, .int .i64 0, .int .i64 0, .slice none 0 0] : Array Value).getD i (.bool false)) := by rw [hwa]; exact box_row (C := w3x.heap.size + 1) (Below.refl _ _) (Nat.lt_succ_self _) rfl
                have la : w3x.heap.size < wa.heap.size := World.rowIs.lt rz
                have kl : w12.heap.size ≤ w3x.heap.size := hHa.size
                have sa := Sl.below s3x ba
                have ra := (SlF.below r3x ba (Nat.le_refl _)).here
                clear hwa hHa
                refine wpAnyH_ready (rs := [5]) (by kernel_rfl) (by simp) ?_
                refine AllReadyH.cons (o := { dst := some 89, op := _, type := _, pos := _, after := _, guard := _ }) rfl (fun K hK => ?_) AllReadyH.nil
                go_simp
                go_at_call 38
                refine (HIM.out (some ⟨x1, 0, none⟩) ws.length (some ⟨x2, 0, none⟩) rs.length _ _ sa (Nat.le_refl _) ra).mono ?_
                rintro e w4x ⟨vw, vr, rfl, o4x, bb⟩
                obtain ⟨a1, c1, rfl⟩ := o4x.sl.1.head
                obtain ⟨a2, c2, rfl⟩ := o4x.sl.2.head
                have hBw4x := below_next (w := w12) hHeld.1 bb
                have hzw4x := bb.size
                have rz := World.rowIs.of_block rz (bb.block _ (World.rowIs.lt rz))
                clear bb hHeld
                refine hK.out _ _ (KP _ hBw4x) (fun hHeld => ?_)
                clear hK K
                try simp only [Act.put, List.setIfInBounds_toArray, List.set_cons_zero, List.set_cons_succ]
                refine wpAnyH_take (i := 6) (oi := { dst := some 83, op := _, type := _, pos := _, after := _, guard := _ }) (v := .tuple #[.agg #[.slice a1 n c1, .int .i64 semj, .int .i64 tohj, .int .i64 topj, .bool cycj, .int .i64 scanj, .int .i64 oldj, .int .i64 copiedj, .int .i64 serialj, .slice a2 m c2], .bool q]) rfl (by kernel_rfl) (by kernel_rfl) (by kernel_rfl) (fun _ _ _ h => h) (Or.inl ⟨by kernel_rfl, ?_⟩) hHeld ?_
                · intro w hSw
                  (try dsimp only at hSw)
                  go_simp
                try simp only [Act.put, List.setIfInBounds_toArray, List.set_cons_zero, List.set_cons_succ]
                refine wpAnyH_take (i := 7) (oi := { dst := some 90, op := _, type := _, pos := _, after := _, guard := _ }) (v := .agg #[.slice a1 n c1, .int .i64 semj, .int .i64 tohj, .int .i64 topj, .bool cycj, .int .i64 scanj, .int .i64 oldj, .int .i64 copiedj, .int .i64 serialj, .slice a2 m c2]) rfl (by kernel_rfl) (by kernel_rfl) (by kernel_rfl) (fun _ _ _ h => h) (Or.inl ⟨by kernel_rfl, ?_⟩) hHeld ?_
                · intro w hSw
                  (try dsimp only at hSw)
                  go_simp
                try simp only [Act.put, List.setIfInBounds_toArray, List.set_cons_zero, List.set_cons_succ]
                refine wpAnyH_take (i := 8) (oi := { dst := some 91, op := _, type := _, pos := _, after := _, guard := _ }) (v := .bool q) rfl (by kernel_rfl) (by kernel_rfl) (by kernel_rfl) (fun _ _ _ h => h) (Or.inl ⟨by kernel_rfl, ?_⟩) hHeld ?_
                · intro w hSw
                  (try dsimp only at hSw)
                  go_simp
                try simp only [Act.put, List.setIfInBounds_toArray, List.set_cons_zero, List.set_cons_succ]
                obtain ⟨d0, d1, d2, d3, d4, d5, d6, d7, d8, d9⟩ := row10 rz rfl rfl rfl rfl rfl rfl rfl rfl rfl rfl
                simp at d0 d1 d2 d3 d4 d5 d6 d7 d8 d9
                have ez := World.rowIs.frozen rz
                refine wpAnyH_ready (rs := [10]) (by kernel_rfl) (by simp) ?_
                refine AllReadyH.cons (o := { dst := none, op := _, type := _, pos := _, after := _, guard := _ }) rfl (fun K hK => ?_) AllReadyH.nil
                go_simp
                have hHs := hHeld.1
                clear hHeld
                refine hK.out _ _ (KP _ (below_ten hHs kl)) (fun hHeld => ?_)
                clear hK K
                try simp only [Act.put, List.setIfInBounds_toArray, List.set_cons_zero, List.set_cons_succ]
                refine wpAnyH_take (i := 11) (oi := { dst := some 17, op := _, type := _, pos := _, after := _, guard := _ }) (v := .bool q) rfl (by kernel_rfl) (by kernel_rfl) (by kernel_rfl) (fun _ _ _ h => h) (Or.inl ⟨by kernel_rfl, ?_⟩) hHeld ?_
                · intro w hSw
                  (try dsimp only at hSw)
                  go_simp
                try simp only [Act.put, List.setIfInBounds_toArray, List.set_cons_zero, List.set_cons_succ]
                refine wpAnyH_done (by kernel_rfl) ?_ _
                go_wp2_with fail
                go_meet
                obtain ⟨u1, y1, u2, y2, h1, h2, h3, h4, h5, h6, h7⟩ := o4x
                exact ⟨w3x.heap.size, a1, c1, a2, c2, rfl, rfl, cells_ten rz, by simp; omega, (own_ten h6 (by omega)).sl.here, (own_ten h7 (by omega)).sl.here, below_ten hHs kl⟩
            · go_simp
              have hHa := hHeld.1
              clear hHeld
              refine hK.out _ _ (KP _ (alloc_own hHa _)) (fun hHeld => ?_)
              clear hK K
              try simp only [Act.put, List.setIfInBounds_toArray, List.set_cons_zero, List.set_cons_succ]
              obtain ⟨wa, hwa⟩ : ∃ V, V = w2x.alloc (.cells #[.slice none 0 0, .int .i64 0, .int .i64 0, .int .i64 0, .bool false, .int .i64 0, .int .i64 0, .int .i64 0, .int .i64 0, .slice none 0 0] 30) := ⟨_, rfl⟩
              rw [← hwa] at hHeld ⊢
              have ba : Below w2x.heap.size w2x wa := by rw [hwa]; exact (Below.refl _ _).alloc (Nat.le_refl _) _
              have rz : wa.rowIs w2x.heap.size 30 10 (fun i => (#[.slice none 0 0, .int .i64 0, .int .i64 0, .int .i64 0, .bool false, .int .i64 0, .int .i64 0, .int .i64 0, .int .i64 0, .slice none 0 0] : Array Value).getD i (.bool false)) := by rw [hwa]; exact box_row (C := w2x.heap.size + 1) (Below.refl _ _) (Nat.lt_succ_self _) rfl
              have la : w2x.heap.size < wa.heap.size := World.rowIs.lt rz
              have kl : w12.heap.size ≤ w2x.heap.size := hHa.size
              have sa := Sl.below s2x ba
              have ra := (SlF.below r2x ba (Nat.le_refl _)).here
              clear hwa hHa
              refine wpAnyH_ready (rs := [4]) (by kernel_rfl) (by simp) ?_
              refine AllReadyH.cons (o := { dst := some 88, op := _, type := _, pos := _, after := _, guard := _ }) rfl (fun K hK => ?_) AllReadyH.nil
              go_simp
              go_at_call 37
              refine (toVal_any _ _ _).mono ?_
              rintro e w3x ⟨rfl, bb⟩
              have s3x := Sl.below sa bb
              have r3x := (SlF.below ra bb (Nat.le_refl _)).here
              have hBw3x := below_next (w := w12) hHeld.1 bb
              have hzw3x := bb.size
              have rz := World.rowIs.of_block rz (bb.block _ (World.rowIs.lt rz))
              clear bb hHeld
              refine hK.out _ _ (KP _ hBw3x) (fun hHeld => ?_)
              clear hK K
              try simp only [Act.put, List.setIfInBounds_toArray, List.set_cons_zero, List.set_cons_succ]
              refine wpAnyH_ready (rs := [5]) (by kernel_rfl) (by simp) ?_
              refine AllReadyH.cons (o := { dst := some 89, op := _, type := _, pos := _, after := _, guard := _ }) rfl (fun K hK => ?_) AllReadyH.nil
              go_simp
              go_at_call 38
              refine (HIM.out (some ⟨x1, 0, none⟩) ws.length (some ⟨x2, 0, none⟩) rs.length _ _ s3x (Nat.le_refl _) r3x).mono ?_
              rintro e w4x ⟨vw, vr, rfl, o4x, bb⟩
              obtain ⟨a1, c1, rfl⟩ := o4x.sl.1.head
              obtain ⟨a2, c2, rfl⟩ := o4x.sl.2.head
              have hBw4x := below_next (w := w12) hHeld.1 bb
              have hzw4x := bb.size
              have rz := World.rowIs.of_block rz (bb.block _ (World.rowIs.lt rz))
              clear bb hHeld
              refine hK.out _ _ (KP _ hBw4x) (fun hHeld => ?_)
              clear hK K
              try simp only [Act.put, List.setIfInBounds_toArray, List.set_cons_zero, List.set_cons_succ]
              refine wpAnyH_take (i := 6) (oi := { dst := some 83, op := _, type := _, pos := _, after := _, guard := _ }) (v := .tuple #[.agg #[.slice a1 n c1, .int .i64 semj, .int .i64 tohj, .int .i64 topj, .bool cycj, .int .i64 scanj, .int .i64 oldj, .int .i64 copiedj, .int .i64 serialj, .slice a2 m c2], .bool q]) rfl (by kernel_rfl) (by kernel_rfl) (by kernel_rfl) (fun _ _ _ h => h) (Or.inl ⟨by kernel_rfl, ?_⟩) hHeld ?_
              · intro w hSw
                (try dsimp only at hSw)
                go_simp
              try simp only [Act.put, List.setIfInBounds_toArray, List.set_cons_zero, List.set_cons_succ]
              refine wpAnyH_take (i := 7) (oi := { dst := some 90, op := _, type := _, pos := _, after := _, guard := _ }) (v := .agg #[.slice a1 n c1, .int .i64 semj, .int .i64 tohj, .int .i64 topj, .bool cycj, .int .i64 scanj, .int .i64 oldj, .int .i64 copiedj, .int .i64 serialj, .slice a2 m c2]) rfl (by kernel_rfl) (by kernel_rfl) (by kernel_rfl) (fun _ _ _ h => h) (Or.inl ⟨by kernel_rfl, ?_⟩) hHeld ?_
              · intro w hSw
                (try dsimp only at hSw)
                go_simp
              try simp only [Act.put, List.setIfInBounds_toArray, List.set_cons_zero, List.set_cons_succ]
              refine wpAnyH_take (i := 8) (oi := { dst := some 91, op := _, type := _, pos := _, after := _, guard := _ }) (v := .bool q) rfl (by kernel_rfl) (by kernel_rfl) (by kernel_rfl) (fun _ _ _ h => h) (Or.inl ⟨by kernel_rfl, ?_⟩) hHeld ?_
              · intro w hSw
                (try dsimp only at hSw)
                go_simp
              try simp only [Act.put, List.setIfInBounds_toArray, List.set_cons_zero, List.set_cons_succ]
              obtain ⟨d0, d1, d2, d3, d4, d5, d6, d7, d8, d9⟩ := row10 rz rfl rfl rfl rfl rfl rfl rfl rfl rfl rfl
              simp at d0 d1 d2 d3 d4 d5 d6 d7 d8 d9
              have ez := World.rowIs.frozen rz
              refine wpAnyH_ready (rs := [10]) (by kernel_rfl) (by simp) ?_
              refine AllReadyH.cons (o := { dst := none, op := _, type := _, pos := _, after := _, guard := _ }) rfl (fun K hK => ?_) AllReadyH.nil
              go_simp
              have hHs := hHeld.1
              clear hHeld
              refine hK.out _ _ (KP _ (below_ten hHs kl)) (fun hHeld => ?_)
              clear hK K
              try simp only [Act.put, List.setIfInBounds_toArray, List.set_cons_zero, List.set_cons_succ]
              refine wpAnyH_take (i := 11) (oi := { dst := some 17, op := _, type := _, pos := _, after := _, guard := _ }) (v := .bool q) rfl (by kernel_rfl) (by kernel_rfl) (by kernel_rfl) (fun _ _ _ h => h) (Or.inl ⟨by kernel_rfl, ?_⟩) hHeld ?_
              · intro w hSw
                (try dsimp only at hSw)
                go_simp
              try simp only [Act.put, List.setIfInBounds_toArray, List.set_cons_zero, List.set_cons_succ]
              refine wpAnyH_done (by kernel_rfl) ?_ _
              go_wp2_with fail
              go_meet
              obtain ⟨u1, y1, u2, y2, h1, h2, h3, h4, h5, h6, h7⟩ := o4x
              exact ⟨w2x.heap.size, a1, c1, a2, c2, rfl, rfl, cells_ten rz, by simp; omega, (own_ten h6 (by omega)).sl.here, (own_ten h7 (by omega)).sl.here, below_ten hHs kl⟩
          · go_simp
            have hHa := hHeld.1
            clear hHeld
            refine hK.out _ _ (KP _ (alloc_own hHa _)) (fun hHeld => ?_)
            clear hK K
            try simp only [Act.put, List.setIfInBounds_toArray, List.set_cons_zero, List.set_cons_succ]
            obtain ⟨wa, hwa⟩ : ∃ V, V = wd.alloc (.cells #[.slice none 0 0, .int .i64 0, .int .i64 0, .int .i64 0, .bool false, .int .i64 0, .int .i64 0, .int .i64 0, .int .i64 0, .slice none 0 0] 30) := ⟨_, rfl⟩
            rw [← hwa] at hHeld ⊢
            have ba : Below wd.heap.size wd wa := by rw [hwa]; exact (Below.refl _ _).alloc (Nat.le_refl _) _
            have rz : wa.rowIs wd.heap.size 30 10 (fun i => (#[.slice none 0 0, .int .i64 0, .int .i64 0, .int .i64 0, .bool false, .int .i64 0, .int .i64 0, .int .i64 0, .int .i64 0, .slice none 0 0] : Array Value).getD i (.bool false)) := by rw [hwa]; exact box_row (C := wd.heap.size + 1) (Below.refl _ _) (Nat.lt_succ_self _) rfl
            have la : wd.heap.size < wa.heap.size := World.rowIs.lt rz
            have kl : w12.heap.size ≤ wd.heap.size := hHa.size
            clear hwa hHa
            refine wpAnyH_ready (rs := [1]) (by kernel_rfl) (by simp) ?_
            refine AllReadyH.cons (o := { dst := some 85, op := _, type := _, pos := _, after := _, guard := _ }) rfl (fun K hK => ?_) AllReadyH.nil
            go_simp
            go_at_call 22
            refine (HTA.out _ (below_next B12 hHeld.1)).mono ?_
            rintro e w2x ⟨x1, x2, rfl, o2, bb⟩
            obtain ⟨s2x, r2x⟩ := ownAr_sl o2
            clear o2
            have hBw2x := below_next (w := w12) hHeld.1 bb
            have hzw2x := bb.size
            have rz := World.rowIs.of_block rz (bb.block _ (World.rowIs.lt rz))
            clear bb hHeld
            refine hK.out _ _ (KP _ hBw2x) (fun hHeld => ?_)
            clear hK K
            try simp only [Act.put, List.setIfInBounds_toArray, List.set_cons_zero, List.set_cons_succ]
            refine wpAnyH_ready (rs := [4]) (by kernel_rfl) (by simp) ?_
            refine AllReadyH.cons (o := { dst := some 88, op := _, type := _, pos := _, after := _, guard := _ }) rfl (fun K hK => ?_) AllReadyH.nil
            go_simp
            go_at_call 37
            refine (toVal_any _ _ _).mono ?_
            rintro e w3x ⟨rfl, bb⟩
            have s3x := Sl.below s2x bb
            have r3x := (SlF.below r2x bb (Nat.le_refl _)).here
            have hBw3x := below_next (w := w12) hHeld.1 bb
            have hzw3x := bb.size
            have rz := World.rowIs.of_block rz (bb.block _ (World.rowIs.lt rz))
            clear bb hHeld
            refine hK.out _ _ (KP _ hBw3x) (fun hHeld => ?_)
            clear hK K
            try simp only [Act.put, List.setIfInBounds_toArray, List.set_cons_zero, List.set_cons_succ]
            refine wpAnyH_ready (rs := [5]) (by kernel_rfl) (by simp) ?_
            refine AllReadyH.cons (o := { dst := some 89, op := _, type := _, pos := _, after := _, guard := _ }) rfl (fun K hK => ?_) AllReadyH.nil
            go_simp
            go_at_call 38
            refine (HIM.out (some ⟨x1, 0, none⟩) ws.length (some ⟨x2, 0, none⟩) rs.length _ _ s3x (Nat.le_refl _) r3x).mono ?_
            rintro e w4x ⟨vw, vr, rfl, o4x, bb⟩
            obtain ⟨a1, c1, rfl⟩ := o4x.sl.1.head
            obtain ⟨a2, c2, rfl⟩ := o4x.sl.2.head
            have hBw4x := below_next (w := w12) hHeld.1 bb
            have hzw4x := bb.size
            have rz := World.rowIs.of_block rz (bb.block _ (World.rowIs.lt rz))
            clear bb hHeld
            refine hK.out _ _ (KP _ hBw4x) (fun hHeld => ?_)
            clear hK K
            try simp only [Act.put, List.setIfInBounds_toArray, List.set_cons_zero, List.set_cons_succ]
            refine wpAnyH_take (i := 6) (oi := { dst := some 83, op := _, type := _, pos := _, after := _, guard := _ }) (v := .tuple #[.agg #[.slice a1 n c1, .int .i64 semj, .int .i64 tohj, .int .i64 topj, .bool cycj, .int .i64 scanj, .int .i64 oldj, .int .i64 copiedj, .int .i64 serialj, .slice a2 m c2], .bool q]) rfl (by kernel_rfl) (by kernel_rfl) (by kernel_rfl) (fun _ _ _ h => h) (Or.inl ⟨by kernel_rfl, ?_⟩) hHeld ?_
            · intro w hSw
              (try dsimp only at hSw)
              go_simp
            try simp only [Act.put, List.setIfInBounds_toArray, List.set_cons_zero, List.set_cons_succ]
            refine wpAnyH_take (i := 7) (oi := { dst := some 90, op := _, type := _, pos := _, after := _, guard := _ }) (v := .agg #[.slice a1 n c1, .int .i64 semj, .int .i64 tohj, .int .i64 topj, .bool cycj, .int .i64 scanj, .int .i64 oldj, .int .i64 copiedj, .int .i64 serialj, .slice a2 m c2]) rfl (by kernel_rfl) (by kernel_rfl) (by kernel_rfl) (fun _ _ _ h => h) (Or.inl ⟨by kernel_rfl, ?_⟩) hHeld ?_
            · intro w hSw
              (try dsimp only at hSw)
              go_simp
            try simp only [Act.put, List.setIfInBounds_toArray, List.set_cons_zero, List.set_cons_succ]
            refine wpAnyH_take (i := 8) (oi := { dst := some 91, op := _, type := _, pos := _, after := _, guard := _ }) (v := .bool q) rfl (by kernel_rfl) (by kernel_rfl) (by kernel_rfl) (fun _ _ _ h => h) (Or.inl ⟨by kernel_rfl, ?_⟩) hHeld ?_
            · intro w hSw
              (try dsimp only at hSw)
              go_simp
            try simp only [Act.put, List.setIfInBounds_toArray, List.set_cons_zero, List.set_cons_succ]
            obtain ⟨d0, d1, d2, d3, d4, d5, d6, d7, d8, d9⟩ := row10 rz rfl rfl rfl rfl rfl rfl rfl rfl rfl rfl
            simp at d0 d1 d2 d3 d4 d5 d6 d7 d8 d9
            have ez := World.rowIs.frozen rz
            refine wpAnyH_ready (rs := [10]) (by kernel_rfl) (by simp) ?_
            refine AllReadyH.cons (o := { dst := none, op := _, type := _, pos := _, after := _, guard := _ }) rfl (fun K hK => ?_) AllReadyH.nil
            go_simp
            have hHs := hHeld.1
            clear hHeld
            refine hK.out _ _ (KP _ (below_ten hHs kl)) (fun hHeld => ?_)
            clear hK K
            try simp only [Act.put, List.setIfInBounds_toArray, List.set_cons_zero, List.set_cons_succ]
            refine wpAnyH_take (i := 11) (oi := { dst := some 17, op := _, type := _, pos := _, after := _, guard := _ }) (v := .bool q) rfl (by kernel_rfl) (by kernel_rfl) (by kernel_rfl) (fun _ _ _ h => h) (Or.inl ⟨by kernel_rfl, ?_⟩) hHeld ?_
            · intro w hSw
              (try dsimp only at hSw)
              go_simp
            try simp only [Act.put, List.setIfInBounds_toArray, List.set_cons_zero, List.set_cons_succ]
            refine wpAnyH_done (by kernel_rfl) ?_ _
            go_wp2_with fail
            go_meet
            obtain ⟨u1, y1, u2, y2, h1, h2, h3, h4, h5, h6, h7⟩ := o4x
            exact ⟨wd.heap.size, a1, c1, a2, c2, rfl, rfl, cells_ten rz, by simp; omega, (own_ten h6 (by omega)).sl.here, (own_ten h7 (by omega)).sl.here, below_ten hHs kl⟩
        case rest =>
        rename World => w14
        obtain ⟨kh, a5, c5, a6, c6, rfl, rfl, j14, lj14, H14, L14, b14⟩ := hcut
        have z14 := b14.size
        have q14 := has_below q12 b14 (by omega)
        have g14 := has_below g12 b14 (by omega)
        have h14 := h12.below b14 (by omega)
        have r14 := r12.below b14 (by omega)
        have S14 := S12.below b14 (by omega)
        have R14 := R12.below b14 (by omega)
        have B14 := below_next B12 b14
        clear k12 v12 q12 g12 h12 r12 S12 R12 b14
        go_wp2_with fail
        refine (eqArena_same _ _ _ _ _ _ _ _ n m z yj _ _ _ _ _ _ _ _ _ H14 S14 hnn L14 R14 hmm).mono ?_
        rintro e w15 ⟨rfl, b15⟩
        have z15 := b15.size
        have g15 := has_below g14 b15 (by omega)
        have h15 := h14.below b15 (by omega)
        have r15 := r14.below b15 (by omega)
        have B15 := below_next B14 b15
        clear q14 g14 h14 r14 S14 R14 b15 j14 H14 L14
        go_wp2_with fail
        refine (heldArena_any _ _ _ _ n m _ _ _ _ _ _ _ _ _ h15.sl hnn r15.sl hmm).mono ?_
        rintro e w16 ⟨rfl, b16⟩
        have B16 := below_next B15 b16
        go_wp2
        go_ret
        exact ⟨rfl, B16⟩
  · have HSZ : ∀ W, _ := fun W => szArena_any aw ws.length cw semi toh top cyc scan old copied serial ar rs.length cr W hl1 hl2
    rw [if_neg h] at HSZ
    clear hs hrt h hspec himpl
    go_enter Tryz.func7, Tryz.ntmps7
    go_wp2_with (go_at_call 20; refine (HSZ _).mono ?_; rintro e w1 ⟨rfl, b1⟩)
    go_ret
    exact ⟨rfl, below_second b1⟩
end Go.Proofs.YtaapiedminakcaaGreat
