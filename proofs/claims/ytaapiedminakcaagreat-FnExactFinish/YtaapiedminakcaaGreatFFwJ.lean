/- - -/
import Derived.Test.YtaapiedminakcaaGreatFFwN
namespace Go.Proofs.YtaapiedminakcaaGreat
set_option maxRecDepth 20000
open Go.RowKit
set_option linter.unusedSimpArgs false
set_option linter.unusedVariables false
theorem zir (b l cw P n : Nat) (h : P + n <= cw) (hP : P < cw) (W : World) : (Instr.sliceAt 22 (.slice (some ⟨b, 0, none⟩) l cw) (some (.int .i64 (P : Int))) (some (.int .i64 ((P : Int) + (n : Int)))) none).run Tryz.prog W = .ok (.slice (some ⟨b, P, none⟩) n (cw - P)) W := by
 have hz := Tryz.sizeOf93
 have he : Tryz.prog.elem 22 = 93 := by kernel_rfl
 rw [run_sliceAt_slice W 22 _ _ _ _ (by kernel_rfl), run_slice_lh W 22 _ _ _ (by rw [he]; exact Tryz.underlying22) .i64 .i64 _ _ (by omega) (by omega) (by omega), he, hz]
 have g1 : ¬ cw = P := by omega
 have g2 : P + n - P = n := by omega
 have g3 : ((P : Int) + (n : Int)).toNat = P + n := by omega
 simp [Result.andThen, sliced, g1, g2, g3, Addr.add]
 intro e
 exact e.symm
theorem zrw {w : World} {b : Nat} {ws : List Int} {p q n : Nat} (h : RwW w b ws) (hp : p + n <= ws.length) (hq : q + n <= ws.length) :
 ∃ wm, (∀ c1 c2, (Builtin.copy_ #[22, 22] 3 #[.slice (some ⟨b, q, none⟩) n c1, .slice (some ⟨b, p, none⟩) n c2]).run Tryz.prog w = .ok (.int .i64 (n : Int)) wm) /\ RwW wm b (cpW ws p q n) /\ Kp [b] w wm := by
 obtain ⟨M, g, hM, ⟨c, hb, hcM, hc⟩, hg⟩ := h
 obtain ⟨cs, hcs⟩ : ∃ cs : List Value, cs = (List.range n).map fun j => Value.int .u64 (za ws (p + j)) := ⟨_, rfl⟩
 have hl : cs.length = n := by rw [hcs]; simp
 refine ⟨w.setRow b (c.toList.take q ++ cs ++ c.toList.drop (q + cs.length)).toArray, fun c1 c2 => ?_, ?_, ?_⟩
 · have := run_copy_row (P := Tryz.prog) w 22 22 3 93 b q n c1 ⟨b, p, none⟩ n c2 c 93 cs Tryz.underlying22 (by kernel_rfl) hb (by rw [hl]; exact (Nat.min_self n).symm) (fun j v hj => by
    rw [hcs, List.getElem?_map] at hj
    by_cases hjn : j < n
    · rw [List.getElem?_range hjn] at hj
      simp at hj
      subst hj
      rw [Addr.add_lit]
      simp only [World.cell?, hb]
      rw [hc (p + j) (by omega), hg (p + j) (by omega)]
      simp
    · rw [List.getElem?_eq_none (by simp; omega)] at hj
      simp at hj) (by omega) (fun v hv => by rw [hcs] at hv; obtain ⟨j, _, rfl⟩ := List.mem_map.1 hv; rfl)
   rw [this, hl]
   rfl
 · refine ⟨M, fun i => (c.toList.take q ++ cs ++ c.toList.drop (q + cs.length)).toArray.getD i (.bool false), by rw [za8]; exact hM, ⟨_, setRow_heap w b c _ _ _ hb, ?_, fun i hi => ?_⟩, fun i hi => ?_⟩
   · simp; omega
   · dsimp only
     rw [Array.getD_eq_getD_getElem?]
     have : i < (c.toList.take q ++ cs ++ c.toList.drop (q + cs.length)).toArray.size := by simp; omega
     rw [Array.getElem?_eq_getElem this]
     simp
   · rw [za8] at hi
     dsimp only
     rw [zfs hi, Array.getD_eq_getD_getElem?]
     have hci : ∀ x, x < ws.length -> c[x]? = some (.int .u64 (za ws x)) := fun x hx => by rw [hc x (by omega), hg x hx]
     by_cases e1 : i < q
     · rw [if_neg (by omega)]
       have : (c.toList.take q ++ cs ++ c.toList.drop (q + cs.length)).toArray[i]? = c[i]? := by
        simp only [List.getElem?_toArray]
        rw [List.getElem?_append_left (by simp; omega), List.getElem?_append_left (by simp; omega), List.getElem?_take_of_lt e1]
        simp
       rw [this, hci i hi]
       rfl
     · by_cases e2 : i < q + n
       · rw [if_pos (by omega)]
         have : (c.toList.take q ++ cs ++ c.toList.drop (q + cs.length)).toArray[i]? = cs[i - q]? := by
          simp only [List.getElem?_toArray]
          rw [List.getElem?_append_left (by simp; omega), List.getElem?_append_right (by simp; omega)]
          congr 1
          simp
          omega
         rw [this, hcs, List.getElem?_map, List.getElem?_range (by omega)]
         simp
       · rw [if_neg (by omega)]
         have : (c.toList.take q ++ cs ++ c.toList.drop (q + cs.length)).toArray[i]? = c[i]? := by
          simp only [List.getElem?_toArray]
          rw [List.getElem?_append_right (by simp; omega), List.getElem?_drop]
          simp
          congr 1
          omega
         rw [this, hci i hi]
         rfl
 · exact ⟨rfl, rfl, rfl, by simp, fun k hk hn => setRow_other w b k _ (by simpa using hn)⟩
set_option maxHeartbeats 2000000 in
theorem zvu (ba bw cw : Nat) (ws : List Int) (sm toh : Int) (T : Nat) (cyc : Bool) (sn old : Int) (C : Nat) (sr : Int) (ar : Option Addr) (cr : Nat) (rs : List (Int × Int)) (p n : Nat) (w : World) (hA : w.rowIs ba 30 10 (fun i => (#[.slice (some ⟨bw, 0, none⟩) ws.length cw, .int .i64 sm, .int .i64 toh, .int .i64 (T : Int), .bool cyc, .int .i64 sn, .int .i64 old, .int .i64 (C : Int), .int .i64 sr, .slice ar rs.length cr] : Array Value).getD i (.bool false))) (hW : RwW w bw ws) (hab : ba ≠ bw) (hcw : ws.length <= cw) (hn : ws.length <= 1048576) (hw : zg ws) (hp : p < ws.length) (hnn : szA ws p = n) (hpn : p + n <= ws.length) (hTn : T + n <= ws.length) (hdis : p + n <= T \/ T + n <= p) (hC : C <= 1048576) :
 Calls Tryz.prog 182 #[.pointer (some ⟨ba, 0, none⟩), .int .i64 (p : Int)] w fun e w' => e = .returned (.int .i64 (T : Int)) /\ w'.rowIs ba 30 10 (fun i => (#[.slice (some ⟨bw, 0, none⟩) ws.length cw, .int .i64 sm, .int .i64 toh, .int .i64 ((T : Int) + n), .bool cyc, .int .i64 sn, .int .i64 old, .int .i64 ((C : Int) + n), .int .i64 sr, .slice ar rs.length cr] : Array Value).getD i (.bool false)) /\ RwW w' bw (mvW ws p T n) /\ Kp [ba, bw] w w' := by
 have hsz : (rdS (za ws p)) + 1 = (n : Int) := by rw [<- hnn]; unfold szA; have := zau (za ws p); omega
 have hn1 : 1 <= n := by rw [<- hnn]; unfold szA; omega
 have HA : Hid (w.rowIs ba 30 10 (fun i => (#[.slice (some ⟨bw, 0, none⟩) ws.length cw, .int .i64 sm, .int .i64 toh, .int .i64 (T : Int), .bool cyc, .int .i64 sn, .int .i64 old, .int .i64 (C : Int), .int .i64 sr, .slice ar rs.length cr] : Array Value).getD i (.bool false))) := hA
 have HW : Hid (RwW w bw ws) := hW
 have KA := zl hA rfl
 have lba := hA.lt
 have lbw := hW.lt
 have KP : ∀ V, Below w.heap.size w V -> (Below w.heap.size w V /\ (∀ i, V.cell? ⟨ba, i, none⟩ = (#[.slice (some ⟨bw, 0, none⟩) ws.length cw, .int .i64 sm, .int .i64 toh, .int .i64 (T : Int), .bool cyc, .int .i64 sn, .int .i64 old, .int .i64 (C : Int), .int .i64 sr, .slice ar rs.length cr] : Array Value)[i]?)) := fun V hV => ⟨hV, ze KA hV lba⟩
 have bd' := (Below.refl w.heap.size w).drew
 clear hA hW
 go_enter Tryz.func182, Tryz.ntmps182
 go_wp2_with fail
 go_region_held3 (fun V => Below w.heap.size w V /\ (∀ i, V.cell? ⟨ba, i, none⟩ = (#[.slice (some ⟨bw, 0, none⟩) ws.length cw, .int .i64 sm, .int .i64 toh, .int .i64 (T : Int), .bool cyc, .int .i64 sn, .int .i64 old, .int .i64 (C : Int), .int .i64 sr, .slice ar rs.length cr] : Array Value)[i]?)) (first | assumption | exact KP _ bd' | exact KP _ (by assumption)) (first | (go_at_call 114; refine (zg8 _ _ _ _ _ _ _ _ _ _ _ _ _ _ _ p _ rfl ((HW.out.sl cw).below (And.left (by assumption))) hn hw hp).mono ?_; rintro e wl ⟨rfl, bb⟩; have hBl := zc (w := w) (And.left (by assumption)) bb; clear bb))
 rename_i hHl
 clear hHl KP bd' KA
 have HAl : Hid (wl.rowIs ba 30 10 (fun i => (#[.slice (some ⟨bw, 0, none⟩) ws.length cw, .int .i64 sm, .int .i64 toh, .int .i64 (T : Int), .bool cyc, .int .i64 sn, .int .i64 old, .int .i64 (C : Int), .int .i64 sr, .slice ar rs.length cr] : Array Value).getD i (.bool false))) := HA.out.of_block (hBl.block _ lba)
 have HWl : Hid (RwW wl bw ws) := Rw.below HW.out hBl
 have KA := zl HAl.out rfl
 have hB := hBl
 have HBl : Hid (Below w.heap.size w wl) := hBl
 have hn' : (ws.length : Int) <= 1048576 := by omega
 have hTn' : (T : Int) + n <= (cw : Int) := by omega
 have hpn' : (p : Int) + n <= (cw : Int) := by omega
 have hT0 : (T : Int) <= 1048576 := by omega
 have hp0 : (p : Int) <= 1048576 := by omega
 have hn0 : (n : Int) <= 1048576 := by omega
 clear hBl hB
 obtain ⟨wm, hcp, hWm, hKm⟩ := zrw (w := wl.drew) (b := bw) (ws := ws) (p := p) (q := T) (n := n) (Rw.drew HWl.out) hpn hTn
 have sl1 := fun W => zir bw ws.length cw T n (by omega) (by omega) W
 have sl2 := fun W => zir bw ws.length cw p n (by omega) (by omega) W
 have wr1 : IntKind.i64.wrap ((T : Int) + (n : Int)) = (T : Int) + n := by rw [IntKind.wrap_i64]; omega
 have wr2 : IntKind.i64.wrap ((p : Int) + (n : Int)) = (p : Int) + n := by rw [IntKind.wrap_i64]; omega
 have KP : ∀ V, Kp [bw] wl V -> (Kp [bw] wl V /\ (∀ i, V.cell? ⟨ba, i, none⟩ = (#[.slice (some ⟨bw, 0, none⟩) ws.length cw, .int .i64 sm, .int .i64 toh, .int .i64 (T : Int), .bool cyc, .int .i64 sn, .int .i64 old, .int .i64 (C : Int), .int .i64 sr, .slice ar rs.length cr] : Array Value)[i]?)) := fun V hV => ⟨hV, Kp.has KA hV (Nat.lt_of_lt_of_le lba HBl.out.size) (by simp; omega)⟩
 have HKm : Hid (Kp [bw] wl.drew wm) := hKm
 have HWm : Hid (RwW wm bw (cpW ws p T n)) := hWm
 clear hKm hWm
 go_wp2_with fail
 refine wp_region_held_drew (S := fun V => Kp [bw] wl V /\ (∀ i, V.cell? ⟨ba, i, none⟩ = (#[.slice (some ⟨bw, 0, none⟩) ws.length cw, .int .i64 sm, .int .i64 toh, .int .i64 (T : Int), .bool cyc, .int .i64 sn, .int .i64 old, .int .i64 (C : Int), .int .i64 sr, .slice ar rs.length cr] : Array Value)[i]?)) (by kernel_rfl) (KP _ (Kp.refl _ _).drew) (fun hHeld => ?_)
 refine wpAnyH_take (i := 0) (oi := { dst := some 16, op := _, type := _, pos := _, after := _, guard := _ }) (v := .pointer (some ⟨ba, 0, none⟩)) rfl (by kernel_rfl) (by kernel_rfl) (by kernel_rfl) (fun _ _ _ h => h) (Or.inl ⟨by kernel_rfl, ?_⟩) hHeld ?_
 · intro w hSw
   (try dsimp only at hSw)
   go_simp
 try simp only [Act.put, zwo, zwp, zwq]
 refine wpAnyH_take (i := 1) (oi := { dst := some 17, op := _, type := _, pos := _, after := _, guard := _ }) (v := .pointer (some ⟨ba, 0, none⟩)) rfl (by kernel_rfl) (by kernel_rfl) (by kernel_rfl) (fun _ _ _ h => h) (Or.inl ⟨by kernel_rfl, ?_⟩) hHeld ?_
 · intro w hSw
   (try dsimp only at hSw)
   go_simp
 try simp only [Act.put, zwo, zwp, zwq]
 refine wpAnyH_take (i := 2) (oi := { dst := some 18, op := _, type := _, pos := _, after := _, guard := _ }) (v := .pointer (some ⟨ba, 0, none⟩)) rfl (by kernel_rfl) (by kernel_rfl) (by kernel_rfl) (fun _ _ _ h => h) (Or.inl ⟨by kernel_rfl, ?_⟩) hHeld ?_
 · intro w hSw
   (try dsimp only at hSw)
   go_simp
 try simp only [Act.put, zwo, zwp, zwq]
 refine wpAnyH_take (i := 3) (oi := { dst := some 19, op := _, type := _, pos := _, after := _, guard := _ }) (v := .slice (some ⟨bw, 0, none⟩) ws.length cw) rfl (by kernel_rfl) (by kernel_rfl) (by kernel_rfl) (fun _ _ _ h => h) (Or.inl ⟨by kernel_rfl, ?_⟩) hHeld ?_
 · intro w hSw
   (try dsimp only at hSw)
   go_simp
 try simp only [Act.put, zwo, zwp, zwq]
 refine wpAnyH_take (i := 4) (oi := { dst := some 20, op := _, type := _, pos := _, after := _, guard := _ }) (v := .int .i64 (T : Int)) rfl (by kernel_rfl) (by kernel_rfl) (by kernel_rfl) (fun _ _ _ h => h) (Or.inl ⟨by kernel_rfl, ?_⟩) hHeld ?_
 · intro w hSw
   (try dsimp only at hSw)
   go_simp
 try simp only [Act.put, zwo, zwp, zwq]
 refine wpAnyH_take (i := 5) (oi := { dst := some 21, op := _, type := _, pos := _, after := _, guard := _ }) (v := .int .i64 (T : Int)) rfl (by kernel_rfl) (by kernel_rfl) (by kernel_rfl) (fun _ _ _ h => h) (Or.inl ⟨by kernel_rfl, ?_⟩) hHeld ?_
 · intro w hSw
   (try dsimp only at hSw)
   go_simp
 try simp only [Act.put, zwo, zwp, zwq]
 refine wpAnyH_take (i := 6) (oi := { dst := some 22, op := _, type := _, pos := _, after := _, guard := _ }) (v := .int .i64 (n : Int)) rfl (by kernel_rfl) (by kernel_rfl) (by kernel_rfl) (fun _ _ _ h => h) (Or.inl ⟨by kernel_rfl, ?_⟩) hHeld ?_
 · intro w hSw
   (try dsimp only at hSw)
   go_simp
 try simp only [Act.put, zwo, zwp, zwq]
 refine wpAnyH_take (i := 7) (oi := { dst := some 23, op := _, type := _, pos := _, after := _, guard := _ }) (v := .int .i64 ((T : Int) + n)) rfl (by kernel_rfl) (by kernel_rfl) (by kernel_rfl) (fun _ _ _ h => h) (Or.inl ⟨by kernel_rfl, ?_⟩) hHeld ?_
 · intro w hSw
   (try dsimp only at hSw)
   go_simp
 try simp only [Act.put, zwo, zwp, zwq]
 refine wpAnyH_take (i := 8) (oi := { dst := some 24, op := _, type := _, pos := _, after := _, guard := _ }) (v := .slice (some ⟨bw, T, none⟩) n (cw - T)) rfl (by kernel_rfl) (by kernel_rfl) (by kernel_rfl) (fun _ _ _ h => h) (Or.inl ⟨by kernel_rfl, ?_⟩) hHeld ?_
 · intro w hSw
   (try dsimp only at hSw)
   go_simp
 try simp only [Act.put, zwo, zwp, zwq]
 refine wpAnyH_take (i := 9) (oi := { dst := some 25, op := _, type := _, pos := _, after := _, guard := _ }) (v := .pointer (some ⟨ba, 0, none⟩)) rfl (by kernel_rfl) (by kernel_rfl) (by kernel_rfl) (fun _ _ _ h => h) (Or.inl ⟨by kernel_rfl, ?_⟩) hHeld ?_
 · intro w hSw
   (try dsimp only at hSw)
   go_simp
 try simp only [Act.put, zwo, zwp, zwq]
 refine wpAnyH_take (i := 10) (oi := { dst := some 26, op := _, type := _, pos := _, after := _, guard := _ }) (v := .pointer (some ⟨ba, 0, none⟩)) rfl (by kernel_rfl) (by kernel_rfl) (by kernel_rfl) (fun _ _ _ h => h) (Or.inl ⟨by kernel_rfl, ?_⟩) hHeld ?_
 · intro w hSw
   (try dsimp only at hSw)
   go_simp
 try simp only [Act.put, zwo, zwp, zwq]
 refine wpAnyH_take (i := 11) (oi := { dst := some 27, op := _, type := _, pos := _, after := _, guard := _ }) (v := .pointer (some ⟨ba, 0, none⟩)) rfl (by kernel_rfl) (by kernel_rfl) (by kernel_rfl) (fun _ _ _ h => h) (Or.inl ⟨by kernel_rfl, ?_⟩) hHeld ?_
 · intro w hSw
   (try dsimp only at hSw)
   go_simp
 try simp only [Act.put, zwo, zwp, zwq]
 refine wpAnyH_take (i := 12) (oi := { dst := some 28, op := _, type := _, pos := _, after := _, guard := _ }) (v := .slice (some ⟨bw, 0, none⟩) ws.length cw) rfl (by kernel_rfl) (by kernel_rfl) (by kernel_rfl) (fun _ _ _ h => h) (Or.inl ⟨by kernel_rfl, ?_⟩) hHeld ?_
 · intro w hSw
   (try dsimp only at hSw)
   go_simp
 try simp only [Act.put, zwo, zwp, zwq]
 refine wpAnyH_take (i := 13) (oi := { dst := some 29, op := _, type := _, pos := _, after := _, guard := _ }) (v := .int .i64 (p : Int)) rfl (by kernel_rfl) (by kernel_rfl) (by kernel_rfl) (fun _ _ _ h => h) (Or.inl ⟨by kernel_rfl, ?_⟩) hHeld ?_
 · intro w hSw
   (try dsimp only at hSw)
   go_simp
 try simp only [Act.put, zwo, zwp, zwq]
 refine wpAnyH_take (i := 14) (oi := { dst := some 30, op := _, type := _, pos := _, after := _, guard := _ }) (v := .int .i64 (p : Int)) rfl (by kernel_rfl) (by kernel_rfl) (by kernel_rfl) (fun _ _ _ h => h) (Or.inl ⟨by kernel_rfl, ?_⟩) hHeld ?_
 · intro w hSw
   (try dsimp only at hSw)
   go_simp
 try simp only [Act.put, zwo, zwp, zwq]
 refine wpAnyH_take (i := 15) (oi := { dst := some 31, op := _, type := _, pos := _, after := _, guard := _ }) (v := .int .i64 (n : Int)) rfl (by kernel_rfl) (by kernel_rfl) (by kernel_rfl) (fun _ _ _ h => h) (Or.inl ⟨by kernel_rfl, ?_⟩) hHeld ?_
 · intro w hSw
   (try dsimp only at hSw)
   go_simp
 try simp only [Act.put, zwo, zwp, zwq]
 refine wpAnyH_take (i := 16) (oi := { dst := some 32, op := _, type := _, pos := _, after := _, guard := _ }) (v := .int .i64 ((p : Int) + n)) rfl (by kernel_rfl) (by kernel_rfl) (by kernel_rfl) (fun _ _ _ h => h) (Or.inl ⟨by kernel_rfl, ?_⟩) hHeld ?_
 · intro w hSw
   (try dsimp only at hSw)
   go_simp
 try simp only [Act.put, zwo, zwp, zwq]
 refine wpAnyH_take (i := 17) (oi := { dst := some 33, op := _, type := _, pos := _, after := _, guard := _ }) (v := .slice (some ⟨bw, p, none⟩) n (cw - p)) rfl (by kernel_rfl) (by kernel_rfl) (by kernel_rfl) (fun _ _ _ h => h) (Or.inl ⟨by kernel_rfl, ?_⟩) hHeld ?_
 · intro w hSw
   (try dsimp only at hSw)
   go_simp
 try simp only [Act.put, zwo, zwp, zwq]
 refine wpAnyH_ready (rs := [18]) (by kernel_rfl) (by simp) ?_
 refine AllReadyH.cons (o := { dst := some 34, op := _, type := _, pos := _, after := _, guard := _ }) rfl (fun K hK => ?_) AllReadyH.nil
 go_simp
 clear hHeld
 refine hK.out _ _ (KP _ ((Kp.refl _ _).drew.trans HKm.out)) (fun hHeld => ?_)
 clear hK K hHeld
 try simp only [Act.put, zwo, zwp, zwq]
 refine wpAnyH_done (by kernel_rfl) ?_ _
 have hKm := (Kp.refl [bw] wl).drew.trans HKm.out
 have lbl : ba < wl.heap.size := Nat.lt_of_lt_of_le lba HBl.out.size
 have HAm : Hid (wm.rowIs ba 30 10 (fun i => (#[.slice (some ⟨bw, 0, none⟩) ws.length cw, .int .i64 sm, .int .i64 toh, .int .i64 (T : Int), .bool cyc, .int .i64 sn, .int .i64 old, .int .i64 (C : Int), .int .i64 sr, .slice ar rs.length cr] : Array Value).getD i (.bool false))) := HAl.out.of_block (hKm.block _ lbl (by simp; omega))
 clear KA KP sl1 sl2 hcp
 have KA := zl HAm.out rfl
 have fa := HAm.out.frozen
 have c1 := HWm.out.cell (i := p) (by rw [za8]; omega)
 have f1 := HWm.out.frozen p
 have hor := zu9 (q := T) (by omega)
 have hTw : IntKind.u64.wrap (T : Int) = (T : Int) := by rw [IntKind.wrap_u64]; omega
 have hp' : (p : Int) < (ws.length : Int) := by omega
 have HK1 : Hid (Kp [bw] wl wm) := hKm
 clear hKm
 go_wp2
 go_ret
 refine ⟨rfl, ?_, ?_, ?_⟩
 · refine (((HAm.out.setOther (a := ⟨bw, p, none⟩) hab _).set 3 _).set 7 _).congr fun i hi => ?_
   have hi2 : i = 0 \/ i = 1 \/ i = 2 \/ i = 3 \/ i = 4 \/ i = 5 \/ i = 6 \/ i = 7 \/ i = 8 \/ i = 9 := by omega
   rcases hi2 with rfl | rfl | rfl | rfl | rfl | rfl | rfl | rfl | rfl | rfl <;> rfl
 · rw [<- zl3 hp]
   exact Rw.other (Rw.other (HWm.out.set _ (by rw [za8]; omega)) (p := ⟨ba, 3, none⟩) hab.symm _) (p := ⟨ba, 7, none⟩) hab.symm _
 · have h1 : Kp [ba, bw] w wm := (Kp.of_below HBl.out).trans (HK1.out.mono (fun x hx => by simp at hx; simp [hx]))
   exact ((h1.setCell (p := ⟨bw, p, none⟩) (.inl (by simp)) _).setCell (p := ⟨ba, 3, none⟩) (.inl (by simp)) _).setCell (p := ⟨ba, 7, none⟩) (.inl (by simp)) _
theorem ze0 {w V : World} {t m : Int} (h : Below ((w.alloc (.cells #[.int .i64 t, .int .i64 m] 50)).alloc (.cells #[.int .i64 0, .int .i64 0] 50)).heap.size ((w.alloc (.cells #[.int .i64 t, .int .i64 m] 50)).alloc (.cells #[.int .i64 0, .int .i64 0] 50)) V) :
 V.rowIs w.heap.size 50 2 (fun i => (#[.int .i64 t, .int .i64 m] : Array Value).getD i (.bool false)) /\ V.rowIs (w.heap.size + 1) 50 2 (fun i => (#[.int .i64 0, .int .i64 0] : Array Value).getD i (.bool false)) /\ Below w.heap.size w V /\ w.heap.size + 1 < V.heap.size := by
 have hz := h.size
 simp at hz
 refine ⟨⟨#[.int .i64 t, .int .i64 m], ?_, rfl, fun i hi => by simp [Array.getD, show i < 2 by omega]⟩, ⟨#[.int .i64 0, .int .i64 0], ?_, rfl, fun i hi => by simp [Array.getD, show i < 2 by omega]⟩, zo h, by omega⟩
 · rw [h.block _ (by simp; omega), Below.heap_alloc _ _ _ (by simp)]; exact Go.Deep.blk_alloc_new _ _
 · rw [h.block _ (by simp)]
   have := Go.Deep.blk_alloc_new (w.alloc (.cells #[.int .i64 t, .int .i64 m] 50)) (.cells #[.int .i64 0, .int .i64 0] 50); simpa using this
set_option maxHeartbeats 2000000 in
theorem zrx (ba bw cw : Nat) (ws : List Int) (sm toh : Int) (T : Nat) (cyc : Bool) (sn old : Int) (C : Nat) (sr : Int) (ar : Option Addr) (cr : Nat) (rs : List (Int × Int)) (t m : Int) (w : World) (hA : w.rowIs ba 30 10 (fun i => (#[.slice (some ⟨bw, 0, none⟩) ws.length cw, .int .i64 sm, .int .i64 toh, .int .i64 (T : Int), .bool cyc, .int .i64 sn, .int .i64 old, .int .i64 (C : Int), .int .i64 sr, .slice ar rs.length cr] : Array Value).getD i (.bool false))) (hW : RwW w bw ws) (hab : ba ≠ bw) (ht : isR t = false) :
 Calls Tryz.prog 150 #[.pointer (some ⟨ba, 0, none⟩), .agg #[.int .i64 t, .int .i64 m]] w fun e w' => e = .returned (.agg #[.int .i64 t, .int .i64 m]) /\ Below w.heap.size w w' := by
 have KA := zl hA rfl
 have lba := hA.lt
 have HA : Hid (w.rowIs ba 30 10 (fun i => (#[.slice (some ⟨bw, 0, none⟩) ws.length cw, .int .i64 sm, .int .i64 toh, .int .i64 (T : Int), .bool cyc, .int .i64 sn, .int .i64 old, .int .i64 (C : Int), .int .i64 sr, .slice ar rs.length cr] : Array Value).getD i (.bool false))) := hA
 have HW : Hid (RwW w bw ws) := hW
 clear hA hW
 obtain ⟨w0, hw0⟩ : ∃ V, V = ((w.alloc (.cells #[.int .i64 t, .int .i64 m] 50)).alloc (.cells #[.int .i64 0, .int .i64 0] 50)) := ⟨_, rfl⟩
 have H2 : ∀ V, Below w0.heap.size w0 V -> _ := fun V hV => ze0 (w := w) (V := V) (t := t) (m := m) (by rw [<- hw0]; exact hV)
 have KP : ∀ V, Below w0.heap.size w0 V -> (Below w0.heap.size w0 V /\ (∀ i, V.cell? ⟨ba, i, none⟩ = (#[.slice (some ⟨bw, 0, none⟩) ws.length cw, .int .i64 sm, .int .i64 toh, .int .i64 (T : Int), .bool cyc, .int .i64 sn, .int .i64 old, .int .i64 (C : Int), .int .i64 sr, .slice ar rs.length cr] : Array Value)[i]?) /\ (∀ i, V.cell? ⟨w.heap.size, i, none⟩ = (#[.int .i64 t, .int .i64 m] : Array Value)[i]?)) := fun V hV => ⟨hV, ze KA (H2 V hV).2.2.1 lba, zl (H2 V hV).1 rfl⟩
 have bd' := (Below.refl w0.heap.size w0).drew
 go_enter Tryz.func150, Tryz.ntmps150
 go_wp2_with fail
 rw [<- hw0]
 clear hw0
 refine wp_region_held_drew (S := fun V => Below w0.heap.size w0 V /\ (∀ i, V.cell? ⟨ba, i, none⟩ = (#[.slice (some ⟨bw, 0, none⟩) ws.length cw, .int .i64 sm, .int .i64 toh, .int .i64 (T : Int), .bool cyc, .int .i64 sn, .int .i64 old, .int .i64 (C : Int), .int .i64 sr, .slice ar rs.length cr] : Array Value)[i]?) /\ (∀ i, V.cell? ⟨w.heap.size, i, none⟩ = (#[.int .i64 t, .int .i64 m] : Array Value)[i]?)) (by kernel_rfl) (KP _ bd') (fun hHeld => ?_)
 refine wpAnyH_take (i := 0) (oi := { dst := some 7, op := _, type := _, pos := _, after := _, guard := _ }) (v := .agg #[.int .i64 t, .int .i64 m]) rfl (by kernel_rfl) (by kernel_rfl) (by kernel_rfl) (fun _ _ _ h => h) (Or.inl ⟨by kernel_rfl, ?_⟩) hHeld ?_
 · intro w hSw
   (try dsimp only at hSw)
   go_simp
 try simp only [Act.put, zwo, zwp, zwq]
 refine wpAnyH_ready (rs := [1]) (by kernel_rfl) (by simp) ?_
 refine AllReadyH.cons (o := { dst := some 8, op := _, type := _, pos := _, after := _, guard := _ }) rfl (fun K hK => ?_) AllReadyH.nil
 go_simp
 go_at_call 93
 refine (zas _ _ _).mono ?_
 rw [ht]
 rintro e w1 ⟨rfl, hb1⟩
 have hB1 := zc (w := w0) hHeld.1 hb1
 clear hb1
 clear hHeld
 refine hK.out _ _ (KP _ hB1) (fun hHeld => ?_)
 clear hK K
 try simp only [Act.put, zwo, zwp, zwq]
 refine wpAnyH_take (i := 2) (oi := { dst := some 9, op := _, type := _, pos := _, after := _, guard := _ }) (v := .bool true) rfl (by kernel_rfl) (by kernel_rfl) (by kernel_rfl) (fun _ _ _ h => h) (Or.inl ⟨by kernel_rfl, ?_⟩) hHeld ?_
 · intro w hSw
   (try dsimp only at hSw)
   go_simp
 try simp only [Act.put, zwo, zwp, zwq]
 refine wpAnyH_take (i := 3) (oi := { dst := some 10, op := _, type := _, pos := _, after := _, guard := _ }) (v := .bool true) rfl (by kernel_rfl) (by kernel_rfl) (by kernel_rfl) (fun _ _ _ h => h) (Or.inl ⟨by kernel_rfl, ?_⟩) hHeld ?_
 · intro w hSw
   (try dsimp only at hSw)
   go_simp
 try simp only [Act.put, zwo, zwp, zwq]
 refine wpAnyH_take (i := 4) (oi := { dst := some 11, op := _, type := _, pos := _, after := _, guard := _ }) (v := undef) rfl (by kernel_rfl) (by kernel_rfl) (by kernel_rfl) (fun _ _ _ h => h) (Or.inr ⟨by kernel_rfl, rfl⟩) hHeld ?_
 try simp only [Act.put, zwo, zwp, zwq]
 refine wpAnyH_take (i := 5) (oi := { dst := some 12, op := _, type := _, pos := _, after := _, guard := _ }) (v := undef) rfl (by kernel_rfl) (by kernel_rfl) (by kernel_rfl) (fun _ _ _ h => h) (Or.inr ⟨by kernel_rfl, rfl⟩) hHeld ?_
 try simp only [Act.put, zwo, zwp, zwq]
 refine wpAnyH_take (i := 6) (oi := { dst := some 13, op := _, type := _, pos := _, after := _, guard := _ }) (v := undef) rfl (by kernel_rfl) (by kernel_rfl) (by kernel_rfl) (fun _ _ _ h => h) (Or.inr ⟨by kernel_rfl, rfl⟩) hHeld ?_
 try simp only [Act.put, zwo, zwp, zwq]
 refine wpAnyH_take (i := 7) (oi := { dst := some 14, op := _, type := _, pos := _, after := _, guard := _ }) (v := undef) rfl (by kernel_rfl) (by kernel_rfl) (by kernel_rfl) (fun _ _ _ h => h) (Or.inr ⟨by kernel_rfl, rfl⟩) hHeld ?_
 try simp only [Act.put, zwo, zwp, zwq]
 refine wpAnyH_take (i := 8) (oi := { dst := some 15, op := _, type := _, pos := _, after := _, guard := _ }) (v := undef) rfl (by kernel_rfl) (by kernel_rfl) (by kernel_rfl) (fun _ _ _ h => h) (Or.inr ⟨by kernel_rfl, rfl⟩) hHeld ?_
 try simp only [Act.put, zwo, zwp, zwq]
 refine wpAnyH_take (i := 9) (oi := { dst := some 16, op := _, type := _, pos := _, after := _, guard := _ }) (v := undef) rfl (by kernel_rfl) (by kernel_rfl) (by kernel_rfl) (fun _ _ _ h => h) (Or.inr ⟨by kernel_rfl, rfl⟩) hHeld ?_
 try simp only [Act.put, zwo, zwp, zwq]
 refine wpAnyH_take (i := 10) (oi := { dst := some 17, op := _, type := _, pos := _, after := _, guard := _ }) (v := .bool true) rfl (by kernel_rfl) (by kernel_rfl) (by kernel_rfl) (fun _ _ _ h => h) (Or.inl ⟨by kernel_rfl, ?_⟩) hHeld ?_
 · intro w hSw
   (try dsimp only at hSw)
   go_simp
 try simp only [Act.put, zwo, zwp, zwq]
 refine wpAnyH_done (by kernel_rfl) ?_ _
 obtain ⟨RV, RY, B1, z1⟩ := H2 _ hHeld.1
 have KA1 := hHeld.2.1
 have KV := hHeld.2.2
 clear hHeld H2 KP bd' KA
 have y0 := RY.cell (i := 0) (by omega)
 have y1 := RY.cell (i := 1) (by omega)
 simp at y0 y1
 have fy := RY.frozen
 go_wp2
 have q0 : (w1.cell? ⟨w.heap.size + 1, 0, none⟩).isSome = true := by rw [y0]; rfl
 have q1 : (w1.cell? ⟨w.heap.size + 1, 1, none⟩).isSome = true := by rw [y1]; rfl
 refine bodyPost_ret (v := .agg #[.int .i64 t, .int .i64 m]) (by simp [results, Tryz.results150, go_sem, q0, q1]) rfl ⟨rfl, ?_⟩
 exact (B1.setCell (p := ⟨w.heap.size + 1, 0, none⟩) (by show w.heap.size <= w.heap.size + 1; omega) _).setCell (p := ⟨w.heap.size + 1, 1, none⟩) (by show w.heap.size <= w.heap.size + 1; omega) _
set_option maxHeartbeats 2000000 in
theorem zry (ba bw cw : Nat) (ws : List Int) (sm toh : Int) (T : Nat) (cyc : Bool) (sn old : Int) (C : Nat) (sr : Int) (ar : Option Addr) (cr : Nat) (rs : List (Int × Int)) (t m : Int) (w : World) (hA : w.rowIs ba 30 10 (fun i => (#[.slice (some ⟨bw, 0, none⟩) ws.length cw, .int .i64 sm, .int .i64 toh, .int .i64 (T : Int), .bool cyc, .int .i64 sn, .int .i64 old, .int .i64 (C : Int), .int .i64 sr, .slice ar rs.length cr] : Array Value).getD i (.bool false))) (hW : RwW w bw ws) (hab : ba ≠ bw) (F : Int) (ht : isR t = true) (t0 : 0 <= toh) (t1 : toh <= 1) (s0 : 256 <= sm) (s1 : sm <= 4000) (hF : toh * sm + 1 = F) (hu : decide (F <= m /\ m < (T : Int)) = true) :
 Calls Tryz.prog 150 #[.pointer (some ⟨ba, 0, none⟩), .agg #[.int .i64 t, .int .i64 m]] w fun e w' => e = .returned (.agg #[.int .i64 t, .int .i64 m]) /\ Below w.heap.size w w' := by
 have KA := zl hA rfl
 have lba := hA.lt
 have HA : Hid (w.rowIs ba 30 10 (fun i => (#[.slice (some ⟨bw, 0, none⟩) ws.length cw, .int .i64 sm, .int .i64 toh, .int .i64 (T : Int), .bool cyc, .int .i64 sn, .int .i64 old, .int .i64 (C : Int), .int .i64 sr, .slice ar rs.length cr] : Array Value).getD i (.bool false))) := hA
 have HW : Hid (RwW w bw ws) := hW
 clear hA hW
 have HF : Hid (toh * sm + 1 = F) := hF
 have HU : Hid (decide (F <= m /\ m < (T : Int)) = true) := hu
 clear hF hu
 obtain ⟨w0, hw0⟩ : ∃ V, V = ((w.alloc (.cells #[.int .i64 t, .int .i64 m] 50)).alloc (.cells #[.int .i64 0, .int .i64 0] 50)) := ⟨_, rfl⟩
 have H2 : ∀ V, Below w0.heap.size w0 V -> _ := fun V hV => ze0 (w := w) (V := V) (t := t) (m := m) (by rw [<- hw0]; exact hV)
 have KP : ∀ V, Below w0.heap.size w0 V -> (Below w0.heap.size w0 V /\ (∀ i, V.cell? ⟨ba, i, none⟩ = (#[.slice (some ⟨bw, 0, none⟩) ws.length cw, .int .i64 sm, .int .i64 toh, .int .i64 (T : Int), .bool cyc, .int .i64 sn, .int .i64 old, .int .i64 (C : Int), .int .i64 sr, .slice ar rs.length cr] : Array Value)[i]?) /\ (∀ i, V.cell? ⟨w.heap.size, i, none⟩ = (#[.int .i64 t, .int .i64 m] : Array Value)[i]?)) := fun V hV => ⟨hV, ze KA (H2 V hV).2.2.1 lba, zl (H2 V hV).1 rfl⟩
 have bd' := (Below.refl w0.heap.size w0).drew
 go_enter Tryz.func150, Tryz.ntmps150
 go_wp2_with fail
 rw [<- hw0]
 clear hw0
 refine wp_region_held_drew (S := fun V => Below w0.heap.size w0 V /\ (∀ i, V.cell? ⟨ba, i, none⟩ = (#[.slice (some ⟨bw, 0, none⟩) ws.length cw, .int .i64 sm, .int .i64 toh, .int .i64 (T : Int), .bool cyc, .int .i64 sn, .int .i64 old, .int .i64 (C : Int), .int .i64 sr, .slice ar rs.length cr] : Array Value)[i]?) /\ (∀ i, V.cell? ⟨w.heap.size, i, none⟩ = (#[.int .i64 t, .int .i64 m] : Array Value)[i]?)) (by kernel_rfl) (KP _ bd') (fun hHeld => ?_)
 refine wpAnyH_take (i := 0) (oi := { dst := some 7, op := _, type := _, pos := _, after := _, guard := _ }) (v := .agg #[.int .i64 t, .int .i64 m]) rfl (by kernel_rfl) (by kernel_rfl) (by kernel_rfl) (fun _ _ _ h => h) (Or.inl ⟨by kernel_rfl, ?_⟩) hHeld ?_
 · intro w hSw
   (try dsimp only at hSw)
   go_simp
 try simp only [Act.put, zwo, zwp, zwq]
 refine wpAnyH_ready (rs := [1]) (by kernel_rfl) (by simp) ?_
 refine AllReadyH.cons (o := { dst := some 8, op := _, type := _, pos := _, after := _, guard := _ }) rfl (fun K hK => ?_) AllReadyH.nil
 go_simp
 go_at_call 93
 refine (zas _ _ _).mono ?_
 rw [ht]
 rintro e w1 ⟨rfl, hb1⟩
 have hB1 := zc (w := w0) hHeld.1 hb1
 clear hb1
 clear hHeld
 refine hK.out _ _ (KP _ hB1) (fun hHeld => ?_)
 clear hK K
 try simp only [Act.put, zwo, zwp, zwq]
 refine wpAnyH_take (i := 2) (oi := { dst := some 9, op := _, type := _, pos := _, after := _, guard := _ }) (v := .bool false) rfl (by kernel_rfl) (by kernel_rfl) (by kernel_rfl) (fun _ _ _ h => h) (Or.inl ⟨by kernel_rfl, ?_⟩) hHeld ?_
 · intro w hSw
   (try dsimp only at hSw)
   go_simp
 try simp only [Act.put, zwo, zwp, zwq]
 refine wpAnyH_take (i := 3) (oi := { dst := some 10, op := _, type := _, pos := _, after := _, guard := _ }) (v := .bool false) rfl (by kernel_rfl) (by kernel_rfl) (by kernel_rfl) (fun _ _ _ h => h) (Or.inl ⟨by kernel_rfl, ?_⟩) hHeld ?_
 · intro w hSw
   (try dsimp only at hSw)
   go_simp
 try simp only [Act.put, zwo, zwp, zwq]
 refine wpAnyH_take (i := 4) (oi := { dst := some 11, op := _, type := _, pos := _, after := _, guard := _ }) (v := .pointer (some ⟨ba, 0, none⟩)) rfl (by kernel_rfl) (by kernel_rfl) (by kernel_rfl) (fun _ _ _ h => h) (Or.inl ⟨by kernel_rfl, ?_⟩) hHeld ?_
 · intro w hSw
   (try dsimp only at hSw)
   go_simp
 try simp only [Act.put, zwo, zwp, zwq]
 refine wpAnyH_take (i := 5) (oi := { dst := some 12, op := _, type := _, pos := _, after := _, guard := _ }) (v := .pointer (some ⟨ba, 0, none⟩)) rfl (by kernel_rfl) (by kernel_rfl) (by kernel_rfl) (fun _ _ _ h => h) (Or.inl ⟨by kernel_rfl, ?_⟩) hHeld ?_
 · intro w hSw
   (try dsimp only at hSw)
   go_simp
 try simp only [Act.put, zwo, zwp, zwq]
 refine wpAnyH_take (i := 6) (oi := { dst := some 13, op := _, type := _, pos := _, after := _, guard := _ }) (v := .agg #[.slice (some ⟨bw, 0, none⟩) ws.length cw, .int .i64 sm, .int .i64 toh, .int .i64 (T : Int), .bool cyc, .int .i64 sn, .int .i64 old, .int .i64 (C : Int), .int .i64 sr, .slice ar rs.length cr]) rfl (by kernel_rfl) (by kernel_rfl) (by kernel_rfl) (fun _ _ _ h => h) (Or.inl ⟨by kernel_rfl, ?_⟩) hHeld ?_
 · intro w hSw
   (try dsimp only at hSw)
   go_simp
 try simp only [Act.put, zwo, zwp, zwq]
 refine wpAnyH_take (i := 7) (oi := { dst := some 14, op := _, type := _, pos := _, after := _, guard := _ }) (v := .pointer (some ⟨w.heap.size, 1, none⟩)) rfl (by kernel_rfl) (by kernel_rfl) (by kernel_rfl) (fun _ _ _ h => h) (Or.inl ⟨by kernel_rfl, ?_⟩) hHeld ?_
 · intro w hSw
   (try dsimp only at hSw)
   go_simp
 try simp only [Act.put, zwo, zwp, zwq]
 refine wpAnyH_take (i := 8) (oi := { dst := some 15, op := _, type := _, pos := _, after := _, guard := _ }) (v := .int .i64 m) rfl (by kernel_rfl) (by kernel_rfl) (by kernel_rfl) (fun _ _ _ h => h) (Or.inl ⟨by kernel_rfl, ?_⟩) hHeld ?_
 · intro w hSw
   (try dsimp only at hSw)
   go_simp
 try simp only [Act.put, zwo, zwp, zwq]
 refine wpAnyH_ready (rs := [9]) (by kernel_rfl) (by simp) ?_
 refine AllReadyH.cons (o := { dst := some 16, op := _, type := _, pos := _, after := _, guard := _ }) rfl (fun K hK => ?_) AllReadyH.nil
 go_simp
 go_at_call 80
 refine (zbx _ _ _ _ _ _ _ _ _ _ _ _ _ _ _ _ _ t0 t1 s0 s1 HF.out).mono ?_
 rw [HU.out]
 rintro e w2 ⟨rfl, hb2⟩
 have hB2 := zc (w := w0) hHeld.1 hb2
 clear hb2
 clear hHeld
 refine hK.out _ _ (KP _ hB2) (fun hHeld => ?_)
 clear hK K
 try simp only [Act.put, zwo, zwp, zwq]
 refine wpAnyH_take (i := 10) (oi := { dst := some 17, op := _, type := _, pos := _, after := _, guard := _ }) (v := .bool true) rfl (by kernel_rfl) (by kernel_rfl) (by kernel_rfl) (fun _ _ _ h => h) (Or.inl ⟨by kernel_rfl, ?_⟩) hHeld ?_
 · intro w hSw
   (try dsimp only at hSw)
   go_simp
 try simp only [Act.put, zwo, zwp, zwq]
 refine wpAnyH_done (by kernel_rfl) ?_ _
 obtain ⟨RV, RY, B1, z1⟩ := H2 _ hHeld.1
 have KA1 := hHeld.2.1
 have KV := hHeld.2.2
 clear hHeld H2 KP bd' KA
 have y0 := RY.cell (i := 0) (by omega)
 have y1 := RY.cell (i := 1) (by omega)
 simp at y0 y1
 have fy := RY.frozen
 go_wp2
 have q0 : (w2.cell? ⟨w.heap.size + 1, 0, none⟩).isSome = true := by rw [y0]; rfl
 have q1 : (w2.cell? ⟨w.heap.size + 1, 1, none⟩).isSome = true := by rw [y1]; rfl
 refine bodyPost_ret (v := .agg #[.int .i64 t, .int .i64 m]) (by simp [results, Tryz.results150, go_sem, q0, q1]) rfl ⟨rfl, ?_⟩
 exact (B1.setCell (p := ⟨w.heap.size + 1, 0, none⟩) (by show w.heap.size <= w.heap.size + 1; omega) _).setCell (p := ⟨w.heap.size + 1, 1, none⟩) (by show w.heap.size <= w.heap.size + 1; omega) _
set_option maxHeartbeats 2000000 in
theorem znz (ba bw cw : Nat) (ws : List Int) (sm toh : Int) (T : Nat) (cyc : Bool) (sn old : Int) (C : Nat) (sr : Int) (ar : Option Addr) (cr : Nat) (rs : List (Int × Int)) (t : Int) (p : Nat) (w : World) (hA : w.rowIs ba 30 10 (fun i => (#[.slice (some ⟨bw, 0, none⟩) ws.length cw, .int .i64 sm, .int .i64 toh, .int .i64 (T : Int), .bool cyc, .int .i64 sn, .int .i64 old, .int .i64 (C : Int), .int .i64 sr, .slice ar rs.length cr] : Array Value).getD i (.bool false))) (hW : RwW w bw ws) (hab : ba ≠ bw) (F : Int) (ht : isR t = true) (t0 : 0 <= toh) (t1 : toh <= 1) (s0 : 256 <= sm) (s1 : sm <= 4000) (hF : toh * sm + 1 = F) (hu : decide (F <= (p : Int) /\ (p : Int) < (T : Int)) = false) (hn : ws.length <= 1048576) (hw : zg ws) (hp : p < ws.length) (hf : za5 (za ws p) = true) :
 Calls Tryz.prog 150 #[.pointer (some ⟨ba, 0, none⟩), .agg #[.int .i64 t, .int .i64 (p : Int)]] w fun e w' => e = .returned (.agg #[.int .i64 t, .int .i64 (fwP (za ws p))]) /\ Below w.heap.size w w' := by
 have KA := zl hA rfl
 have lba := hA.lt
 have HA : Hid (w.rowIs ba 30 10 (fun i => (#[.slice (some ⟨bw, 0, none⟩) ws.length cw, .int .i64 sm, .int .i64 toh, .int .i64 (T : Int), .bool cyc, .int .i64 sn, .int .i64 old, .int .i64 (C : Int), .int .i64 sr, .slice ar rs.length cr] : Array Value).getD i (.bool false))) := hA
 have HW : Hid (RwW w bw ws) := hW
 clear hA hW
 have HF : Hid (toh * sm + 1 = F) := hF
 have HU : Hid (decide (F <= (p : Int) /\ (p : Int) < (T : Int)) = false) := hu
 have hx := zw hw p
 have hp' : (p : Int) < (ws.length : Int) := by omega
 clear hF hu
 obtain ⟨w0, hw0⟩ : ∃ V, V = ((w.alloc (.cells #[.int .i64 t, .int .i64 (p : Int)] 50)).alloc (.cells #[.int .i64 0, .int .i64 0] 50)) := ⟨_, rfl⟩
 have H2 : ∀ V, Below w0.heap.size w0 V -> _ := fun V hV => ze0 (w := w) (V := V) (t := t) (m := (p : Int)) (by rw [<- hw0]; exact hV)
 have KP : ∀ V, Below w0.heap.size w0 V -> (Below w0.heap.size w0 V /\ (∀ i, V.cell? ⟨ba, i, none⟩ = (#[.slice (some ⟨bw, 0, none⟩) ws.length cw, .int .i64 sm, .int .i64 toh, .int .i64 (T : Int), .bool cyc, .int .i64 sn, .int .i64 old, .int .i64 (C : Int), .int .i64 sr, .slice ar rs.length cr] : Array Value)[i]?) /\ (∀ i, V.cell? ⟨w.heap.size, i, none⟩ = (#[.int .i64 t, .int .i64 (p : Int)] : Array Value)[i]?)) := fun V hV => ⟨hV, ze KA (H2 V hV).2.2.1 lba, zl (H2 V hV).1 rfl⟩
 have bd' := (Below.refl w0.heap.size w0).drew
 go_enter Tryz.func150, Tryz.ntmps150
 go_wp2_with fail
 rw [<- hw0]
 clear hw0
 refine wp_region_held_drew (S := fun V => Below w0.heap.size w0 V /\ (∀ i, V.cell? ⟨ba, i, none⟩ = (#[.slice (some ⟨bw, 0, none⟩) ws.length cw, .int .i64 sm, .int .i64 toh, .int .i64 (T : Int), .bool cyc, .int .i64 sn, .int .i64 old, .int .i64 (C : Int), .int .i64 sr, .slice ar rs.length cr] : Array Value)[i]?) /\ (∀ i, V.cell? ⟨w.heap.size, i, none⟩ = (#[.int .i64 t, .int .i64 (p : Int)] : Array Value)[i]?)) (by kernel_rfl) (KP _ bd') (fun hHeld => ?_)
 refine wpAnyH_take (i := 0) (oi := { dst := some 7, op := _, type := _, pos := _, after := _, guard := _ }) (v := .agg #[.int .i64 t, .int .i64 (p : Int)]) rfl (by kernel_rfl) (by kernel_rfl) (by kernel_rfl) (fun _ _ _ h => h) (Or.inl ⟨by kernel_rfl, ?_⟩) hHeld ?_
 · intro w hSw
   (try dsimp only at hSw)
   go_simp
 try simp only [Act.put, zwo, zwp, zwq]
 refine wpAnyH_ready (rs := [1]) (by kernel_rfl) (by simp) ?_
 refine AllReadyH.cons (o := { dst := some 8, op := _, type := _, pos := _, after := _, guard := _ }) rfl (fun K hK => ?_) AllReadyH.nil
 go_simp
 go_at_call 93
 refine (zas _ _ _).mono ?_
 rw [ht]
 rintro e w1 ⟨rfl, hb1⟩
 have hB1 := zc (w := w0) hHeld.1 hb1
 clear hb1
 clear hHeld
 refine hK.out _ _ (KP _ hB1) (fun hHeld => ?_)
 clear hK K
 try simp only [Act.put, zwo, zwp, zwq]
 refine wpAnyH_take (i := 2) (oi := { dst := some 9, op := _, type := _, pos := _, after := _, guard := _ }) (v := .bool false) rfl (by kernel_rfl) (by kernel_rfl) (by kernel_rfl) (fun _ _ _ h => h) (Or.inl ⟨by kernel_rfl, ?_⟩) hHeld ?_
 · intro w hSw
   (try dsimp only at hSw)
   go_simp
 try simp only [Act.put, zwo, zwp, zwq]
 refine wpAnyH_take (i := 3) (oi := { dst := some 10, op := _, type := _, pos := _, after := _, guard := _ }) (v := .bool false) rfl (by kernel_rfl) (by kernel_rfl) (by kernel_rfl) (fun _ _ _ h => h) (Or.inl ⟨by kernel_rfl, ?_⟩) hHeld ?_
 · intro w hSw
   (try dsimp only at hSw)
   go_simp
 try simp only [Act.put, zwo, zwp, zwq]
 refine wpAnyH_take (i := 4) (oi := { dst := some 11, op := _, type := _, pos := _, after := _, guard := _ }) (v := .pointer (some ⟨ba, 0, none⟩)) rfl (by kernel_rfl) (by kernel_rfl) (by kernel_rfl) (fun _ _ _ h => h) (Or.inl ⟨by kernel_rfl, ?_⟩) hHeld ?_
 · intro w hSw
   (try dsimp only at hSw)
   go_simp
 try simp only [Act.put, zwo, zwp, zwq]
 refine wpAnyH_take (i := 5) (oi := { dst := some 12, op := _, type := _, pos := _, after := _, guard := _ }) (v := .pointer (some ⟨ba, 0, none⟩)) rfl (by kernel_rfl) (by kernel_rfl) (by kernel_rfl) (fun _ _ _ h => h) (Or.inl ⟨by kernel_rfl, ?_⟩) hHeld ?_
 · intro w hSw
   (try dsimp only at hSw)
   go_simp
 try simp only [Act.put, zwo, zwp, zwq]
 refine wpAnyH_take (i := 6) (oi := { dst := some 13, op := _, type := _, pos := _, after := _, guard := _ }) (v := .agg #[.slice (some ⟨bw, 0, none⟩) ws.length cw, .int .i64 sm, .int .i64 toh, .int .i64 (T : Int), .bool cyc, .int .i64 sn, .int .i64 old, .int .i64 (C : Int), .int .i64 sr, .slice ar rs.length cr]) rfl (by kernel_rfl) (by kernel_rfl) (by kernel_rfl) (fun _ _ _ h => h) (Or.inl ⟨by kernel_rfl, ?_⟩) hHeld ?_
 · intro w hSw
   (try dsimp only at hSw)
   go_simp
 try simp only [Act.put, zwo, zwp, zwq]
 refine wpAnyH_take (i := 7) (oi := { dst := some 14, op := _, type := _, pos := _, after := _, guard := _ }) (v := .pointer (some ⟨w.heap.size, 1, none⟩)) rfl (by kernel_rfl) (by kernel_rfl) (by kernel_rfl) (fun _ _ _ h => h) (Or.inl ⟨by kernel_rfl, ?_⟩) hHeld ?_
 · intro w hSw
   (try dsimp only at hSw)
   go_simp
 try simp only [Act.put, zwo, zwp, zwq]
 refine wpAnyH_take (i := 8) (oi := { dst := some 15, op := _, type := _, pos := _, after := _, guard := _ }) (v := .int .i64 (p : Int)) rfl (by kernel_rfl) (by kernel_rfl) (by kernel_rfl) (fun _ _ _ h => h) (Or.inl ⟨by kernel_rfl, ?_⟩) hHeld ?_
 · intro w hSw
   (try dsimp only at hSw)
   go_simp
 try simp only [Act.put, zwo, zwp, zwq]
 refine wpAnyH_ready (rs := [9]) (by kernel_rfl) (by simp) ?_
 refine AllReadyH.cons (o := { dst := some 16, op := _, type := _, pos := _, after := _, guard := _ }) rfl (fun K hK => ?_) AllReadyH.nil
 go_simp
 go_at_call 80
 refine (zbx _ _ _ _ _ _ _ _ _ _ _ _ _ _ _ _ _ t0 t1 s0 s1 HF.out).mono ?_
 rw [HU.out]
 rintro e w2 ⟨rfl, hb2⟩
 have hB2 := zc (w := w0) hHeld.1 hb2
 clear hb2
 clear hHeld
 refine hK.out _ _ (KP _ hB2) (fun hHeld => ?_)
 clear hK K
 try simp only [Act.put, zwo, zwp, zwq]
 refine wpAnyH_take (i := 10) (oi := { dst := some 17, op := _, type := _, pos := _, after := _, guard := _ }) (v := .bool false) rfl (by kernel_rfl) (by kernel_rfl) (by kernel_rfl) (fun _ _ _ h => h) (Or.inl ⟨by kernel_rfl, ?_⟩) hHeld ?_
 · intro w hSw
   (try dsimp only at hSw)
   go_simp
 try simp only [Act.put, zwo, zwp, zwq]
 refine wpAnyH_done (by kernel_rfl) ?_ _
 obtain ⟨RV, RY, B1, z1⟩ := H2 _ hHeld.1
 have KA1 := hHeld.2.1
 have KV := hHeld.2.2
 clear hHeld H2 KP bd' KA
 have HW1 : Hid (RwW w2 bw ws) := Rw.below HW.out B1
 have x0 := HW1.out.cell hp
 have HRY : Hid (w2.rowIs (w.heap.size + 1) 50 2 (fun i => (#[.int .i64 0, .int .i64 0] : Array Value).getD i (.bool false))) := RY
 have HRV : Hid (w2.rowIs w.heap.size 50 2 (fun i => (#[.int .i64 t, .int .i64 (p : Int)] : Array Value).getD i (.bool false))) := RV
 clear RY RV
 go_wp2_with fail
 go_region_held3 (fun V => V = w2.drew) (first | assumption | rfl) (first | (go_at_call 181; refine (zb5 _ _ hx.1 hx.2).mono ?_; rw [hf]; rintro e w' ⟨rfl, rfl⟩))
 obtain ⟨w3, hw3⟩ : ∃ V, V = w2.drew := ⟨_, rfl⟩
 rw [<- hw3]
 have HRY3 : Hid (w3.rowIs (w.heap.size + 1) 50 2 (fun i => (#[.int .i64 0, .int .i64 0] : Array Value).getD i (.bool false))) := by show w3.rowIs _ _ _ _; rw [hw3]; exact HRY.out.drew
 have HRV3 : Hid (w3.rowIs w.heap.size 50 2 (fun i => (#[.int .i64 t, .int .i64 (p : Int)] : Array Value).getD i (.bool false))) := by show w3.rowIs _ _ _ _; rw [hw3]; exact HRV.out.drew
 have B3 : Below w.heap.size w w3 := by rw [hw3]; exact B1.drew
 have HW3 : Hid (RwW w3 bw ws) := Rw.below HW.out B3
 have HA3 : Hid (w3.rowIs ba 30 10 (fun i => (#[.slice (some ⟨bw, 0, none⟩) ws.length cw, .int .i64 sm, .int .i64 toh, .int .i64 (T : Int), .bool cyc, .int .i64 sn, .int .i64 old, .int .i64 (C : Int), .int .i64 sr, .slice ar rs.length cr] : Array Value).getD i (.bool false))) := HA.out.of_block (B3.block _ lba)
 clear hw3 HW1 HRY HRV KA1 KV x0
 have KV := zl HRV3.out rfl
 have RY := HRY3.out
 have y0 := RY.cell (i := 0) (by omega)
 have y1 := RY.cell (i := 1) (by omega)
 simp at y0 y1
 have fy := RY.frozen
 clear RY
 go_wp2
 have q0 : (w3.cell? ⟨w.heap.size + 1, 0, none⟩).isSome = true := by rw [y0]; rfl
 have q1 : (w3.cell? ⟨w.heap.size + 1, 1, none⟩).isSome = true := by rw [y1]; rfl
 refine bodyPost_ret (v := .agg #[.int .i64 t, .int .i64 (fwP (za ws p))]) (by simp [results, Tryz.results150, go_sem, q0, q1]) rfl ⟨rfl, ?_⟩
 exact (B3.setCell (p := ⟨w.heap.size + 1, 0, none⟩) (by show w.heap.size <= w.heap.size + 1; omega) _).setCell (p := ⟨w.heap.size + 1, 1, none⟩) (by show w.heap.size <= w.heap.size + 1; omega) _
set_option maxHeartbeats 2000000 in
theorem zn0 (ba bw cw : Nat) (ws : List Int) (sm toh : Int) (T : Nat) (cyc : Bool) (sn old : Int) (C : Nat) (sr : Int) (ar : Option Addr) (cr : Nat) (rs : List (Int × Int)) (t : Int) (p : Nat) (w : World) (hA : w.rowIs ba 30 10 (fun i => (#[.slice (some ⟨bw, 0, none⟩) ws.length cw, .int .i64 sm, .int .i64 toh, .int .i64 (T : Int), .bool cyc, .int .i64 sn, .int .i64 old, .int .i64 (C : Int), .int .i64 sr, .slice ar rs.length cr] : Array Value).getD i (.bool false))) (hW : RwW w bw ws) (hab : ba ≠ bw) (F : Int) (ht : isR t = true) (t0 : 0 <= toh) (t1 : toh <= 1) (s0 : 256 <= sm) (s1 : sm <= 4000) (hF : toh * sm + 1 = F) (hu : decide (F <= (p : Int) /\ (p : Int) < (T : Int)) = false) (hn : ws.length <= 1048576) (hw : zg ws) (hp : p < ws.length) (hf : za5 (za ws p) = false) (hcw : ws.length <= cw) (n : Nat) (hnn : szA ws p = n) (hpn : p + n <= ws.length) (hTn : T + n <= ws.length) (hdis : p + n <= T \/ T + n <= p) (hC : C <= 1048576) :
 Calls Tryz.prog 150 #[.pointer (some ⟨ba, 0, none⟩), .agg #[.int .i64 t, .int .i64 (p : Int)]] w fun e w' => e = .returned (.agg #[.int .i64 t, .int .i64 (T : Int)]) /\ w'.rowIs ba 30 10 (fun i => (#[.slice (some ⟨bw, 0, none⟩) ws.length cw, .int .i64 sm, .int .i64 toh, .int .i64 ((T : Int) + n), .bool cyc, .int .i64 sn, .int .i64 old, .int .i64 ((C : Int) + n), .int .i64 sr, .slice ar rs.length cr] : Array Value).getD i (.bool false)) /\ RwW w' bw (mvW ws p T n) /\ Kp [ba, bw] w w' := by
 have KA := zl hA rfl
 have lba := hA.lt
 have HA : Hid (w.rowIs ba 30 10 (fun i => (#[.slice (some ⟨bw, 0, none⟩) ws.length cw, .int .i64 sm, .int .i64 toh, .int .i64 (T : Int), .bool cyc, .int .i64 sn, .int .i64 old, .int .i64 (C : Int), .int .i64 sr, .slice ar rs.length cr] : Array Value).getD i (.bool false))) := hA
 have HW : Hid (RwW w bw ws) := hW
 clear hA hW
 have HF : Hid (toh * sm + 1 = F) := hF
 have HU : Hid (decide (F <= (p : Int) /\ (p : Int) < (T : Int)) = false) := hu
 have hx := zw hw p
 have hp' : (p : Int) < (ws.length : Int) := by omega
 clear hF hu
 obtain ⟨w0, hw0⟩ : ∃ V, V = ((w.alloc (.cells #[.int .i64 t, .int .i64 (p : Int)] 50)).alloc (.cells #[.int .i64 0, .int .i64 0] 50)) := ⟨_, rfl⟩
 have H2 : ∀ V, Below w0.heap.size w0 V -> _ := fun V hV => ze0 (w := w) (V := V) (t := t) (m := (p : Int)) (by rw [<- hw0]; exact hV)
 have KP : ∀ V, Below w0.heap.size w0 V -> (Below w0.heap.size w0 V /\ (∀ i, V.cell? ⟨ba, i, none⟩ = (#[.slice (some ⟨bw, 0, none⟩) ws.length cw, .int .i64 sm, .int .i64 toh, .int .i64 (T : Int), .bool cyc, .int .i64 sn, .int .i64 old, .int .i64 (C : Int), .int .i64 sr, .slice ar rs.length cr] : Array Value)[i]?) /\ (∀ i, V.cell? ⟨w.heap.size, i, none⟩ = (#[.int .i64 t, .int .i64 (p : Int)] : Array Value)[i]?)) := fun V hV => ⟨hV, ze KA (H2 V hV).2.2.1 lba, zl (H2 V hV).1 rfl⟩
 have bd' := (Below.refl w0.heap.size w0).drew
 go_enter Tryz.func150, Tryz.ntmps150
 go_wp2_with fail
 rw [<- hw0]
 clear hw0
 refine wp_region_held_drew (S := fun V => Below w0.heap.size w0 V /\ (∀ i, V.cell? ⟨ba, i, none⟩ = (#[.slice (some ⟨bw, 0, none⟩) ws.length cw, .int .i64 sm, .int .i64 toh, .int .i64 (T : Int), .bool cyc, .int .i64 sn, .int .i64 old, .int .i64 (C : Int), .int .i64 sr, .slice ar rs.length cr] : Array Value)[i]?) /\ (∀ i, V.cell? ⟨w.heap.size, i, none⟩ = (#[.int .i64 t, .int .i64 (p : Int)] : Array Value)[i]?)) (by kernel_rfl) (KP _ bd') (fun hHeld => ?_)
 refine wpAnyH_take (i := 0) (oi := { dst := some 7, op := _, type := _, pos := _, after := _, guard := _ }) (v := .agg #[.int .i64 t, .int .i64 (p : Int)]) rfl (by kernel_rfl) (by kernel_rfl) (by kernel_rfl) (fun _ _ _ h => h) (Or.inl ⟨by kernel_rfl, ?_⟩) hHeld ?_
 · intro w hSw
   (try dsimp only at hSw)
   go_simp
 try simp only [Act.put, zwo, zwp, zwq]
 refine wpAnyH_ready (rs := [1]) (by kernel_rfl) (by simp) ?_
 refine AllReadyH.cons (o := { dst := some 8, op := _, type := _, pos := _, after := _, guard := _ }) rfl (fun K hK => ?_) AllReadyH.nil
 go_simp
 go_at_call 93
 refine (zas _ _ _).mono ?_
 rw [ht]
 rintro e w1 ⟨rfl, hb1⟩
 have hB1 := zc (w := w0) hHeld.1 hb1
 clear hb1
 clear hHeld
 refine hK.out _ _ (KP _ hB1) (fun hHeld => ?_)
 clear hK K
 try simp only [Act.put, zwo, zwp, zwq]
 refine wpAnyH_take (i := 2) (oi := { dst := some 9, op := _, type := _, pos := _, after := _, guard := _ }) (v := .bool false) rfl (by kernel_rfl) (by kernel_rfl) (by kernel_rfl) (fun _ _ _ h => h) (Or.inl ⟨by kernel_rfl, ?_⟩) hHeld ?_
 · intro w hSw
   (try dsimp only at hSw)
   go_simp
 try simp only [Act.put, zwo, zwp, zwq]
 refine wpAnyH_take (i := 3) (oi := { dst := some 10, op := _, type := _, pos := _, after := _, guard := _ }) (v := .bool false) rfl (by kernel_rfl) (by kernel_rfl) (by kernel_rfl) (fun _ _ _ h => h) (Or.inl ⟨by kernel_rfl, ?_⟩) hHeld ?_
 · intro w hSw
   (try dsimp only at hSw)
   go_simp
 try simp only [Act.put, zwo, zwp, zwq]
 refine wpAnyH_take (i := 4) (oi := { dst := some 11, op := _, type := _, pos := _, after := _, guard := _ }) (v := .pointer (some ⟨ba, 0, none⟩)) rfl (by kernel_rfl) (by kernel_rfl) (by kernel_rfl) (fun _ _ _ h => h) (Or.inl ⟨by kernel_rfl, ?_⟩) hHeld ?_
 · intro w hSw
   (try dsimp only at hSw)
   go_simp
 try simp only [Act.put, zwo, zwp, zwq]
 refine wpAnyH_take (i := 5) (oi := { dst := some 12, op := _, type := _, pos := _, after := _, guard := _ }) (v := .pointer (some ⟨ba, 0, none⟩)) rfl (by kernel_rfl) (by kernel_rfl) (by kernel_rfl) (fun _ _ _ h => h) (Or.inl ⟨by kernel_rfl, ?_⟩) hHeld ?_
 · intro w hSw
   (try dsimp only at hSw)
   go_simp
 try simp only [Act.put, zwo, zwp, zwq]
 refine wpAnyH_take (i := 6) (oi := { dst := some 13, op := _, type := _, pos := _, after := _, guard := _ }) (v := .agg #[.slice (some ⟨bw, 0, none⟩) ws.length cw, .int .i64 sm, .int .i64 toh, .int .i64 (T : Int), .bool cyc, .int .i64 sn, .int .i64 old, .int .i64 (C : Int), .int .i64 sr, .slice ar rs.length cr]) rfl (by kernel_rfl) (by kernel_rfl) (by kernel_rfl) (fun _ _ _ h => h) (Or.inl ⟨by kernel_rfl, ?_⟩) hHeld ?_
 · intro w hSw
   (try dsimp only at hSw)
   go_simp
 try simp only [Act.put, zwo, zwp, zwq]
 refine wpAnyH_take (i := 7) (oi := { dst := some 14, op := _, type := _, pos := _, after := _, guard := _ }) (v := .pointer (some ⟨w.heap.size, 1, none⟩)) rfl (by kernel_rfl) (by kernel_rfl) (by kernel_rfl) (fun _ _ _ h => h) (Or.inl ⟨by kernel_rfl, ?_⟩) hHeld ?_
 · intro w hSw
   (try dsimp only at hSw)
   go_simp
 try simp only [Act.put, zwo, zwp, zwq]
 refine wpAnyH_take (i := 8) (oi := { dst := some 15, op := _, type := _, pos := _, after := _, guard := _ }) (v := .int .i64 (p : Int)) rfl (by kernel_rfl) (by kernel_rfl) (by kernel_rfl) (fun _ _ _ h => h) (Or.inl ⟨by kernel_rfl, ?_⟩) hHeld ?_
 · intro w hSw
   (try dsimp only at hSw)
   go_simp
 try simp only [Act.put, zwo, zwp, zwq]
 refine wpAnyH_ready (rs := [9]) (by kernel_rfl) (by simp) ?_
 refine AllReadyH.cons (o := { dst := some 16, op := _, type := _, pos := _, after := _, guard := _ }) rfl (fun K hK => ?_) AllReadyH.nil
 go_simp
 go_at_call 80
 refine (zbx _ _ _ _ _ _ _ _ _ _ _ _ _ _ _ _ _ t0 t1 s0 s1 HF.out).mono ?_
 rw [HU.out]
 rintro e w2 ⟨rfl, hb2⟩
 have hB2 := zc (w := w0) hHeld.1 hb2
 clear hb2
 clear hHeld
 refine hK.out _ _ (KP _ hB2) (fun hHeld => ?_)
 clear hK K
 try simp only [Act.put, zwo, zwp, zwq]
 refine wpAnyH_take (i := 10) (oi := { dst := some 17, op := _, type := _, pos := _, after := _, guard := _ }) (v := .bool false) rfl (by kernel_rfl) (by kernel_rfl) (by kernel_rfl) (fun _ _ _ h => h) (Or.inl ⟨by kernel_rfl, ?_⟩) hHeld ?_
 · intro w hSw
   (try dsimp only at hSw)
   go_simp
 try simp only [Act.put, zwo, zwp, zwq]
 refine wpAnyH_done (by kernel_rfl) ?_ _
 obtain ⟨RV, RY, B1, z1⟩ := H2 _ hHeld.1
 have KA1 := hHeld.2.1
 have KV := hHeld.2.2
 clear hHeld H2 KP bd' KA
 have HW1 : Hid (RwW w2 bw ws) := Rw.below HW.out B1
 have x0 := HW1.out.cell hp
 have HRY : Hid (w2.rowIs (w.heap.size + 1) 50 2 (fun i => (#[.int .i64 0, .int .i64 0] : Array Value).getD i (.bool false))) := RY
 have HRV : Hid (w2.rowIs w.heap.size 50 2 (fun i => (#[.int .i64 t, .int .i64 (p : Int)] : Array Value).getD i (.bool false))) := RV
 clear RY RV
 go_wp2_with fail
 go_region_held3 (fun V => V = w2.drew) (first | assumption | rfl) (first | (go_at_call 181; refine (zb5 _ _ hx.1 hx.2).mono ?_; rw [hf]; rintro e w' ⟨rfl, rfl⟩))
 obtain ⟨w3, hw3⟩ : ∃ V, V = w2.drew := ⟨_, rfl⟩
 rw [<- hw3]
 have HRY3 : Hid (w3.rowIs (w.heap.size + 1) 50 2 (fun i => (#[.int .i64 0, .int .i64 0] : Array Value).getD i (.bool false))) := by show w3.rowIs _ _ _ _; rw [hw3]; exact HRY.out.drew
 have HRV3 : Hid (w3.rowIs w.heap.size 50 2 (fun i => (#[.int .i64 t, .int .i64 (p : Int)] : Array Value).getD i (.bool false))) := by show w3.rowIs _ _ _ _; rw [hw3]; exact HRV.out.drew
 have B3 : Below w.heap.size w w3 := by rw [hw3]; exact B1.drew
 have HW3 : Hid (RwW w3 bw ws) := Rw.below HW.out B3
 have HA3 : Hid (w3.rowIs ba 30 10 (fun i => (#[.slice (some ⟨bw, 0, none⟩) ws.length cw, .int .i64 sm, .int .i64 toh, .int .i64 (T : Int), .bool cyc, .int .i64 sn, .int .i64 old, .int .i64 (C : Int), .int .i64 sr, .slice ar rs.length cr] : Array Value).getD i (.bool false))) := HA.out.of_block (B3.block _ lba)
 clear hw3 HW1 HRY HRV KA1 KV x0
 have KV := zl HRV3.out rfl
 go_wp2_with fail
 refine (zvu ba bw cw ws sm toh T cyc sn old C sr ar cr rs p n _ HA3.out HW3.out hab hcw hn hw hp hnn hpn hTn hdis hC).mono ?_
 rintro e w4 ⟨rfl, hA4, hW4, hK4⟩
 have lbw := HW.out.lt
 have HRY4 : Hid (w4.rowIs (w.heap.size + 1) 50 2 (fun i => (#[.int .i64 0, .int .i64 0] : Array Value).getD i (.bool false))) := HRY3.out.of_block (hK4.block _ HRY3.out.lt (by simp; omega))
 have RV4 := HRV3.out.of_block (hK4.block _ HRV3.out.lt (by simp; omega))
 clear KV
 have KV := zl RV4 rfl
 have HA4 : Hid (w4.rowIs ba 30 10 (fun i => (#[.slice (some ⟨bw, 0, none⟩) ws.length cw, .int .i64 sm, .int .i64 toh, .int .i64 ((T : Int) + n), .bool cyc, .int .i64 sn, .int .i64 old, .int .i64 ((C : Int) + n), .int .i64 sr, .slice ar rs.length cr] : Array Value).getD i (.bool false))) := hA4
 have HW4 : Hid (RwW w4 bw (mvW ws p T n)) := hW4
 have HK4 : Hid (Kp [ba, bw] w w4) := (Kp.of_below B3).trans hK4
 have RY := HRY4.out
 have y0 := RY.cell (i := 0) (by omega)
 have y1 := RY.cell (i := 1) (by omega)
 simp at y0 y1
 have fy := RY.frozen
 clear RY RV4 hA4 hW4 hK4
 go_wp2
 have q0 : (w4.cell? ⟨w.heap.size + 1, 0, none⟩).isSome = true := by rw [y0]; rfl
 have q1 : (w4.cell? ⟨w.heap.size + 1, 1, none⟩).isSome = true := by rw [y1]; rfl
 refine bodyPost_ret (v := .agg #[.int .i64 t, .int .i64 (T : Int)]) (by simp [results, Tryz.results150, go_sem, q0, q1]) rfl ⟨rfl, ?_, ?_, ?_⟩
 · exact (HA4.out.setOther (a := ⟨w.heap.size + 1, 0, none⟩) (by show ba ≠ w.heap.size + 1; omega) _).setOther (a := ⟨w.heap.size + 1, 1, none⟩) (by show ba ≠ w.heap.size + 1; omega) _
 · exact Rw.other (Rw.other HW4.out (p := ⟨w.heap.size + 1, 0, none⟩) (by show bw ≠ w.heap.size + 1; omega) _) (p := ⟨w.heap.size + 1, 1, none⟩) (by show bw ≠ w.heap.size + 1; omega) _
 · exact (HK4.out.setCell (p := ⟨w.heap.size + 1, 0, none⟩) (.inr (Nat.le_succ _)) _).setCell (p := ⟨w.heap.size + 1, 1, none⟩) (.inr (Nat.le_succ _)) _
theorem zrv (ba bw cw : Nat) (ws : List Int) (sm toh : Int) (T : Nat) (cyc : Bool) (sn old : Int) (C : Nat) (sr : Int) (ar : Option Addr) (cr : Nat) (rs : List (Int × Int)) (t m : Int) (w : World) {S E F Od sc J : Nat} {L O : List Nat} (hA : w.rowIs ba 30 10 (fun i => (#[.slice (some ⟨bw, 0, none⟩) ws.length cw, .int .i64 sm, .int .i64 toh, .int .i64 (T : Int), .bool cyc, .int .i64 sn, .int .i64 old, .int .i64 (C : Int), .int .i64 sr, .slice ar rs.length cr] : Array Value).getD i (.bool false))) (hW : RwW w bw ws) (hab : ba ≠ bw) (hcw : ws.length <= cw) (hC : Cyc ⟨ws, T, C⟩ S E F Od sc J L O) (hH : zby sm toh S E F Od) (hm : isR t = true -> 0 <= m /\ (m.toNat ∈ L \/ m.toNat ∈ O)) (hCb : C <= 1048576) :
 Calls Tryz.prog 150 #[.pointer (some ⟨ba, 0, none⟩), .agg #[.int .i64 t, .int .i64 m]] w fun e w' =>
  e = .returned (.agg #[.int .i64 t, .int .i64 (zbf S ⟨ws, T, C⟩ t m)]) /\ w'.rowIs ba 30 10 (fun i => (#[.slice (some ⟨bw, 0, none⟩) ws.length cw, .int .i64 sm, .int .i64 toh, .int .i64 ((zam S ⟨ws, T, C⟩ t m).T : Int), .bool cyc, .int .i64 sn, .int .i64 old, .int .i64 ((zam S ⟨ws, T, C⟩ t m).C : Int), .int .i64 sr, .slice ar rs.length cr] : Array Value).getD i (.bool false)) /\ RwW w' bw (zam S ⟨ws, T, C⟩ t m).ws /\ Kp [ba, bw] w w' := by
 have hsm := hC.small
 have hw := hC.w64
 have hTE := hC.TE
 have hE := hC.hE
 have hap := hC.ap
 dsimp only at hsm hw hTE hE
 have keep : ∀ {w' : World}, Below w.heap.size w w' -> w'.rowIs ba 30 10 (fun i => (#[.slice (some ⟨bw, 0, none⟩) ws.length cw, .int .i64 sm, .int .i64 toh, .int .i64 (T : Int), .bool cyc, .int .i64 sn, .int .i64 old, .int .i64 (C : Int), .int .i64 sr, .slice ar rs.length cr] : Array Value).getD i (.bool false)) := fun hb => hA.of_block (hb.block _ hA.lt)
 cases hr : isR t with
 | false =>
   have e1 : zam S ⟨ws, T, C⟩ t m = ⟨ws, T, C⟩ := by unfold zam zd0; simp [hr]
   have e2 : zbf S ⟨ws, T, C⟩ t m = m := by unfold zbf; rw [if_neg (fun g => by rw [hr] at g; simp at g)]
   rw [e1, e2]
   refine (zrx ba bw cw ws sm toh T cyc sn old C sr ar cr rs t m w hA hW hab hr).mono ?_
   rintro e w' ⟨rfl, hb⟩
   exact ⟨rfl, keep hb, Rw.below hW hb, Kp.of_below hb⟩
 | true =>
   obtain ⟨m0, hmm⟩ := hm hr
   obtain ⟨p, rfl⟩ := Int.eq_ofNat_of_zero_le m0
   rw [Int.toNat_natCast] at hmm
   have hin := hC.inUse hmm
   by_cases hu : p ∈ L
   · have hpi := hin.2 hu
     dsimp only at hpi
     have e1 : zam S ⟨ws, T, C⟩ t (p : Int) = ⟨ws, T, C⟩ := by unfold zam zd0; rw [if_neg]; simp; omega
     have e2 : zbf S ⟨ws, T, C⟩ t (p : Int) = (p : Int) := by unfold zbf; rw [if_neg (fun g => g.2 (by dsimp only; omega))]
     rw [e1, e2]
     refine (zry ba bw cw ws sm toh T cyc sn old C sr ar cr rs t (p : Int) w hA hW hab (S : Int) hr hH.t0 hH.t1 hH.s0 hH.s1 hH.hS (decide_eq_true ⟨by omega, by omega⟩)).mono ?_
     rintro e w' ⟨rfl, hb⟩
     exact ⟨rfl, keep hb, Rw.below hW hb, Kp.of_below hb⟩
   · have hpO : p ∈ O := by
      rcases hmm with g | g
      · exact absurd g hu
      · exact g
     obtain ⟨o1, o2, ho⟩ := hC.inO hpO
     have hOd := hC.hOd
     dsimp only at ho hOd
     have hnu : ¬ ((S : Int) <= (p : Int) /\ (p : Int) < (T : Int)) := fun g => hu (hin.1 (by dsimp only; omega))
     rcases ho with ⟨g1, g2⟩ | ⟨g1, g2, g3⟩
     · have hf := zfc g1
       have e1 : zam S ⟨ws, T, C⟩ t (p : Int) = ⟨mvW ws p T (szA ws p), T + szA ws p, C + szA ws p⟩ := by
        unfold zam
        rw [if_pos (by simp only [zd0, hr, Int.toNat_natCast, hf, decide_eq_false hnu]; rfl)]
        simp
       have e2 : zbf S ⟨ws, T, C⟩ t (p : Int) = (T : Int) := by unfold zbf; rw [if_pos ⟨hr, hnu⟩, Int.toNat_natCast, hf]; simp
       have hmv := (hC.move hpO g1).TE
       dsimp only at hmv
       rw [e1, e2]
       refine (zn0 ba bw cw ws sm toh T cyc sn old C sr ar cr rs t p w hA hW hab (S : Int) hr hH.t0 hH.t1 hH.s0 hH.s1 hH.hS (decide_eq_false hnu) hsm hw (by omega) hf hcw (szA ws p) rfl (by omega) (by omega) ?_ hCb).mono ?_
       · have := hC.ST
         dsimp only at this
         omega
       · rintro e w' ⟨rfl, h0, h1, h2⟩
         refine ⟨rfl, ?_, h1, h2⟩
         push_cast
         exact h0
     · have e1 : zam S ⟨ws, T, C⟩ t (p : Int) = ⟨ws, T, C⟩ := by unfold zam zd0; simp [g2]
       have e2 : zbf S ⟨ws, T, C⟩ t (p : Int) = fwP (za ws p) := by unfold zbf; rw [if_pos ⟨hr, hnu⟩, Int.toNat_natCast, if_pos g2]
       rw [e1, e2]
       refine (znz ba bw cw ws sm toh T cyc sn old C sr ar cr rs t p w hA hW hab (S : Int) hr hH.t0 hH.t1 hH.s0 hH.s1 hH.hS (decide_eq_false hnu) hsm hw (by omega) g2).mono ?_
       rintro e w' ⟨rfl, hb⟩
       exact ⟨rfl, keep hb, Rw.below hW hb, Kp.of_below hb⟩
end Go.Proofs.YtaapiedminakcaaGreat
