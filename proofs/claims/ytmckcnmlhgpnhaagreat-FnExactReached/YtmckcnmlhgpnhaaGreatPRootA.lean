/- - -/
import Derived.Test.YtmckcnmlhgpnhaaGreatPSvK
namespace Go.Proofs.YtmckcnmlhgpnhaaGreat
set_option maxRecDepth 20000
open Go.RowKit Go.Maps
set_option linter.unusedSimpArgs false
set_option linter.unusedVariables false
def zcg (ws : List Int) (lead : Nat -> Int) (F top t m : Int) : Bool := vOk t m && (decide (t ≠ 8) && (!isR t || (zfp ws lead t m && decide (F <= m /\ m < top))))
def zbc (ws : List Int) (lead : Nat -> Int) (F top : Int) (y : Nat -> Int) (k : Nat) : Prop := ∀ i, i < k -> zcg ws lead F top (y (2 * i)) (y (2 * i + 1)) = true
set_option maxHeartbeats 4000000 in
theorem zi8 (b off cw : Nat) (ws : List Int) (smz toh top : Int) (cyc : Bool) (sn old cpz sr : Int) (ar : Option Addr) (cr : Nat) (rs : List (Int × Int)) (sv bl cl bs bc : Nat) (vp : Value) (lead : Nat -> Int) (y : Nat -> Int) (Tr : Nat) (F : Int) (w : World) (lsv : sv < w.heap.size) (KS : ∀ i, w.cell? ⟨sv, i, none⟩ = (#[.slice (some ⟨b, off, none⟩) ws.length cw, .int .i64 smz, .int .i64 toh, .int .i64 top, .bool cyc, .int .i64 sn, .int .i64 old, .int .i64 cpz, .int .i64 sr, .slice ar rs.length cr, .slice (some ⟨bl, 0, none⟩) ws.length cl, vp, .map (some bs), .map (some bc)] : Array Value)[i]?) (lbl : bl < w.heap.size) (hl : ∀ i, i < ws.length -> w.cell? ⟨bl, i, none⟩ = some (.int .i64 (lead i))) (hb : b < w.heap.size) (hc : ∀ i, i < ws.length -> w.cell? ⟨b, off + i, none⟩ = some (.int .u64 (za ws i))) (hn : ws.length <= 1048576) (hw : zi ws) (hrt : SlF Tr w (.slice ar rs.length cr) rs.length (2 * rs.length) (fun i => .int .i64 (y i))) (hrl : rs.length <= 24) (t0 : 0 <= toh) (t1 : toh <= 1) (s0 : 256 <= smz) (s1 : smz <= 4000) (hF : toh * smz + 1 = F) (hlr : ∀ i, i < ws.length -> 0 <= lead i /\ lead i < ws.length) :
 Calls Tryz.prog 136 #[.pointer (some ⟨sv, 0, none⟩)] w fun e w' => ∃ q, e = .returned (.bool q) /\ (q = true ↔ zbc ws lead F top y rs.length) /\ Below w.heap.size w w' := by
 have HF : Hid (toh * smz + 1 = F) := hF
 have HL : Hid (∀ i, i < ws.length -> w.cell? ⟨bl, i, none⟩ = some (.int .i64 (lead i))) := hl
 have HC : Hid (∀ i, i < ws.length -> w.cell? ⟨b, off + i, none⟩ = some (.int .u64 (za ws i))) := hc
 have HLR : Hid (∀ i, i < ws.length -> 0 <= lead i /\ lead i < ws.length) := hlr
 have HRT : Hid (SlF w.heap.size w (.slice ar rs.length cr) rs.length (2 * rs.length) (fun i => .int .i64 (y i))) := hrt.here
 have HIO : ∀ W t m, Below w.heap.size w W -> 0 <= m -> Calls Tryz.prog 174 #[.pointer (some ⟨sv, 0, none⟩), .agg #[.int .i64 t, .int .i64 m]] W fun e w' => e = .returned (.bool (zfp ws lead t m)) /\ Below W.heap.size W w' := fun W t m hW hm =>
  zhx b off cw ws smz toh top cyc sn old cpz sr ar cr rs sv bl cl bs bc vp lead t m W (Nat.lt_of_lt_of_le lsv hW.size) (ze KS hW lsv) (Nat.lt_of_lt_of_le lbl hW.size) (fun i hi => by rw [hW.cell (p := ⟨bl, i, none⟩) lbl]; exact HL.out i hi) (zg hb HC.out hW).1 (zg hb HC.out hW).2 hn hw hm HLR.out
 have hrl' : (rs.length : Int) <= 24 := by omega
 clear hF hl hc hlr hrt
 go_enter Tryz.func136, Tryz.ntmps136
 go_wp2
 go_loopw [11] (fun u11 wr => ∃ k : Nat, k <= rs.length /\ u11 = .int .i64 k /\ zbc ws lead F top y k /\ Below w.heap.size w wr) (fun u11 _ => rs.length - (intOf u11).toNat)
 case atStart => exact ⟨0, Nat.zero_le _, rfl, fun i hi => absurd hi (by omega), Below.refl _ _⟩
 case round =>
  obtain ⟨k, hk, rfl, hro, hB⟩ := hrel
  have HRO : Hid (zbc ws lead F top y k) := hro
  clear hro
  by_cases hlt : k < rs.length
  · have hlt' : (k : Int) < (rs.length : Int) := by omega
    obtain ⟨br, offr, cap, hv, _, lbr, hcr⟩ := HRT.out.parts (k := 0) (by omega)
    simp only [Value.slice.injEq] at hv
    obtain ⟨rfl, _, rfl⟩ := hv
    have hc1 : wr.cell? ⟨br, offr + k * 2, none⟩ = some (.int .i64 (y (2 * k))) := by rw [hB.cell (p := ⟨br, offr + k * 2, none⟩) lbr, Nat.mul_comm]; exact hcr (2 * k) (by omega)
    have hd1 : wr.cell? ⟨br, offr + k * 2 + 1, none⟩ = some (.int .i64 (y (2 * k + 1))) := by rw [hB.cell (p := ⟨br, offr + k * 2 + 1, none⟩) lbr, Nat.mul_comm]; exact hcr (2 * k + 1) (by omega)
    have HST : Hid (zcg ws lead F top (y (2 * k)) (y (2 * k + 1)) = true -> zbc ws lead F top y (k + 1)) := fun g i hi => by
     by_cases e : i = k
     · subst e; exact g
     · exact HRO.out i (by omega)
    have HNO : Hid (zbc ws lead F top y rs.length -> zcg ws lead F top (y (2 * k)) (y (2 * k + 1)) = true) := fun g => g k hlt
    clear hcr HRT
    generalize y (2 * k) = t at *
    generalize y (2 * k + 1) = m at *
    have hBv : Below w.heap.size w (wr.alloc (.cells #[.int .i64 t, .int .i64 m] 48)) := hB.alloc hB.size _
    cases hvk : vOk t m with
    | false =>
      have HBAD : Hid (zcg ws lead F top t m = false) := by show zcg ws lead F top t m = false; simp [zcg, hvk]
      go_wp2_with (go_at_call 173; refine (zdj t m _).mono ?_; rw [hvk]; rintro e w6 ⟨rfl, b6⟩; have q6 : ∀ i, w6.cell? ⟨wr.heap.size, i, none⟩ = (#[.int .i64 t, .int .i64 m] : Array Value)[i]? := zo b6 (by simp))
      go_ret
      exact ⟨false, rfl, ⟨fun g => by simp at g, fun g => by have := HNO.out g; rw [HBAD.out] at this; simp at this⟩, zc hBv b6⟩
    | true =>
    by_cases h8 : t = 8
    · have e8 : (t == 8) = true := by simpa using h8
      have HBAD : Hid (zcg ws lead F top t m = false) := by show zcg ws lead F top t m = false; simp [zcg, h8]
      clear h8
      go_wp2_with (go_at_call 173; refine (zdj t m _).mono ?_; rw [hvk]; rintro e w6 ⟨rfl, b6⟩; have q6 : ∀ i, w6.cell? ⟨wr.heap.size, i, none⟩ = (#[.int .i64 t, .int .i64 m] : Array Value)[i]? := zo b6 (by simp))
      go_ret
      exact ⟨false, rfl, ⟨fun g => by simp at g, fun g => by have := HNO.out g; rw [HBAD.out] at this; simp at this⟩, zc hBv b6⟩
    · have e8 : (t == 8) = false := by simpa using h8
      have H8 : Hid (t ≠ 8) := h8
      have hpos : isR t = true -> 0 < m := fun g => by simp only [vOk, isR, decide_eq_true_eq] at hvk g; omega
      have HPOS : Hid (isR t = true -> 0 < m) := hpos
      clear h8 hpos
      go_upto_region 6 with (go_at_call 173; refine (zdj t m _).mono ?_; rw [hvk]; rintro e w6 ⟨rfl, b6⟩; have q6 : ∀ i, w6.cell? ⟨wr.heap.size, i, none⟩ = (#[.int .i64 t, .int .i64 m] : Array Value)[i]? := zo b6 (by simp))
      have B6 : Below w.heap.size w w6 := zc hBv b6
      have l6 : wr.heap.size < w6.heap.size := by have := b6.size; simp at this; omega
      have KP : ∀ W, Below w6.heap.size w6 W -> (Below w6.heap.size w6 W /\ (∀ i, W.cell? ⟨sv, i, none⟩ = (#[.slice (some ⟨b, off, none⟩) ws.length cw, .int .i64 smz, .int .i64 toh, .int .i64 top, .bool cyc, .int .i64 sn, .int .i64 old, .int .i64 cpz, .int .i64 sr, .slice (some ⟨br, offr, none⟩) rs.length cr, .slice (some ⟨bl, 0, none⟩) ws.length cl, vp, .map (some bs), .map (some bc)] : Array Value)[i]?) /\ (∀ i, W.cell? ⟨wr.heap.size, i, none⟩ = (#[.int .i64 t, .int .i64 m] : Array Value)[i]?)) := fun W hW => ⟨hW, ze KS (zc B6 hW) lsv, ze q6 hW l6⟩
      have b6' := (Below.refl w6.heap.size w6).drew
      clear b6 q6
      cases hr : isR t with
      | false =>
        have HNX : Hid (zbc ws lead F top y (k + 1)) := HST.out (by have := H8.out; simp [zcg, hvk, hr, this])
        clear HIO
        refine wp_region_held_drew (S := fun W => Below w6.heap.size w6 W /\ (∀ i, W.cell? ⟨sv, i, none⟩ = (#[.slice (some ⟨b, off, none⟩) ws.length cw, .int .i64 smz, .int .i64 toh, .int .i64 top, .bool cyc, .int .i64 sn, .int .i64 old, .int .i64 cpz, .int .i64 sr, .slice (some ⟨br, offr, none⟩) rs.length cr, .slice (some ⟨bl, 0, none⟩) ws.length cl, vp, .map (some bs), .map (some bc)] : Array Value)[i]?) /\ (∀ i, W.cell? ⟨wr.heap.size, i, none⟩ = (#[.int .i64 t, .int .i64 m] : Array Value)[i]?)) (by kernel_rfl) (KP _ b6') (fun hHeld => ?_)
        refine wpAnyH_take (i := 0) (oi := { dst := some 23, op := _, type := _, pos := _, after := _, guard := _ }) (v := .agg #[.int .i64 t, .int .i64 m]) rfl (by kernel_rfl) (by kernel_rfl) (by kernel_rfl) (fun _ _ _ h => h) (Or.inl ⟨by kernel_rfl, ?_⟩) hHeld ?_
        · intro w hSw
          (try dsimp only at hSw)
          go_simp
        try simp only [Act.put, zut, zuu, zuv]
        refine wpAnyH_ready (rs := [1]) (by kernel_rfl) (by simp) ?_
        refine AllReadyH.cons (o := { dst := some 24, op := _, type := _, pos := _, after := _, guard := _ }) rfl (fun K hK => ?_) AllReadyH.nil
        go_simp
        go_at_call 119
        refine (zax t m _).mono ?_
        rw [hr]
        rintro e w' ⟨rfl, hb⟩
        have hB3 := zc (w := w6) hHeld.1 hb
        clear hb hHeld
        refine hK.out _ _ (KP _ hB3) (fun hHeld => ?_)
        clear hK K
        try simp only [Act.put, zut, zuu, zuv]
        refine wpAnyH_take (i := 2) (oi := { dst := some 25, op := _, type := _, pos := _, after := _, guard := _ }) (v := .bool false) rfl (by kernel_rfl) (by kernel_rfl) (by kernel_rfl) (fun _ _ _ h => h) (Or.inl ⟨by kernel_rfl, ?_⟩) hHeld ?_
        · intro w hSw
          go_simp
        try simp only [Act.put, zut, zuu, zuv]
        refine wpAnyH_take (i := 3) (oi := { dst := some 26, op := _, type := _, pos := _, after := _, guard := _ }) (v := undef) rfl (by kernel_rfl) (by kernel_rfl) (by kernel_rfl) (fun _ _ _ h => h) (Or.inr ⟨by kernel_rfl, rfl⟩) hHeld ?_
        try simp only [Act.put, zut, zuu, zuv]
        refine wpAnyH_take (i := 4) (oi := { dst := some 27, op := _, type := _, pos := _, after := _, guard := _ }) (v := undef) rfl (by kernel_rfl) (by kernel_rfl) (by kernel_rfl) (fun _ _ _ h => h) (Or.inr ⟨by kernel_rfl, rfl⟩) hHeld ?_
        try simp only [Act.put, zut, zuu, zuv]
        refine wpAnyH_take (i := 5) (oi := { dst := some 28, op := _, type := _, pos := _, after := _, guard := _ }) (v := undef) rfl (by kernel_rfl) (by kernel_rfl) (by kernel_rfl) (fun _ _ _ h => h) (Or.inr ⟨by kernel_rfl, rfl⟩) hHeld ?_
        try simp only [Act.put, zut, zuu, zuv]
        refine wpAnyH_take (i := 6) (oi := { dst := some 29, op := _, type := _, pos := _, after := _, guard := _ }) (v := undef) rfl (by kernel_rfl) (by kernel_rfl) (by kernel_rfl) (fun _ _ _ h => h) (Or.inr ⟨by kernel_rfl, rfl⟩) hHeld ?_
        try simp only [Act.put, zut, zuu, zuv]
        refine wpAnyH_take (i := 7) (oi := { dst := some 30, op := _, type := _, pos := _, after := _, guard := _ }) (v := undef) rfl (by kernel_rfl) (by kernel_rfl) (by kernel_rfl) (fun _ _ _ h => h) (Or.inr ⟨by kernel_rfl, rfl⟩) hHeld ?_
        try simp only [Act.put, zut, zuu, zuv]
        refine wpAnyH_take (i := 8) (oi := { dst := some 31, op := _, type := _, pos := _, after := _, guard := _ }) (v := undef) rfl (by kernel_rfl) (by kernel_rfl) (by kernel_rfl) (fun _ _ _ h => h) (Or.inr ⟨by kernel_rfl, rfl⟩) hHeld ?_
        try simp only [Act.put, zut, zuu, zuv]
        refine wpAnyH_take (i := 9) (oi := { dst := some 32, op := _, type := _, pos := _, after := _, guard := _ }) (v := undef) rfl (by kernel_rfl) (by kernel_rfl) (by kernel_rfl) (fun _ _ _ h => h) (Or.inr ⟨by kernel_rfl, rfl⟩) hHeld ?_
        try simp only [Act.put, zut, zuu, zuv]
        refine wpAnyH_take (i := 10) (oi := { dst := some 33, op := _, type := _, pos := _, after := _, guard := _ }) (v := undef) rfl (by kernel_rfl) (by kernel_rfl) (by kernel_rfl) (fun _ _ _ h => h) (Or.inr ⟨by kernel_rfl, rfl⟩) hHeld ?_
        try simp only [Act.put, zut, zuu, zuv]
        refine wpAnyH_take (i := 11) (oi := { dst := some 34, op := _, type := _, pos := _, after := _, guard := _ }) (v := undef) rfl (by kernel_rfl) (by kernel_rfl) (by kernel_rfl) (fun _ _ _ h => h) (Or.inr ⟨by kernel_rfl, rfl⟩) hHeld ?_
        try simp only [Act.put, zut, zuu, zuv]
        refine wpAnyH_take (i := 12) (oi := { dst := some 35, op := _, type := _, pos := _, after := _, guard := _ }) (v := undef) rfl (by kernel_rfl) (by kernel_rfl) (by kernel_rfl) (fun _ _ _ h => h) (Or.inr ⟨by kernel_rfl, rfl⟩) hHeld ?_
        try simp only [Act.put, zut, zuu, zuv]
        refine wpAnyH_take (i := 13) (oi := { dst := some 36, op := _, type := _, pos := _, after := _, guard := _ }) (v := undef) rfl (by kernel_rfl) (by kernel_rfl) (by kernel_rfl) (fun _ _ _ h => h) (Or.inr ⟨by kernel_rfl, rfl⟩) hHeld ?_
        try simp only [Act.put, zut, zuu, zuv]
        refine wpAnyH_take (i := 14) (oi := { dst := some 37, op := _, type := _, pos := _, after := _, guard := _ }) (v := undef) rfl (by kernel_rfl) (by kernel_rfl) (by kernel_rfl) (fun _ _ _ h => h) (Or.inr ⟨by kernel_rfl, rfl⟩) hHeld ?_
        try simp only [Act.put, zut, zuu, zuv]
        refine wpAnyH_take (i := 15) (oi := { dst := some 38, op := _, type := _, pos := _, after := _, guard := _ }) (v := undef) rfl (by kernel_rfl) (by kernel_rfl) (by kernel_rfl) (fun _ _ _ h => h) (Or.inr ⟨by kernel_rfl, rfl⟩) hHeld ?_
        try simp only [Act.put, zut, zuu, zuv]
        refine wpAnyH_take (i := 16) (oi := { dst := some 39, op := _, type := _, pos := _, after := _, guard := _ }) (v := .bool false) rfl (by kernel_rfl) (by kernel_rfl) (by kernel_rfl) (fun _ _ _ h => h) (Or.inl ⟨by kernel_rfl, ?_⟩) hHeld ?_
        · intro w hSw
          go_simp
        try simp only [Act.put, zut, zuu, zuv]
        refine wpAnyH_done (by kernel_rfl) ?_ _
        go_wp2
        first
         | (refine ⟨⟨k + 1, hlt, by go_num, HNX.out, zc B6 hHeld.1⟩, by simp [intOf]; omega⟩)
         | (go_roundw
            case rel => exact ⟨k + 1, hlt, by go_num, HNX.out, zc B6 hHeld.1⟩
            case measure => simp [intOf]; omega)
      | true =>
        have hm0 : 0 <= m := by have := HPOS.out hr; omega
        cases ho : zfp ws lead t m with
        | false =>
          have HBAD : Hid (zcg ws lead F top t m = false) := by show zcg ws lead F top t m = false; simp [zcg, hr, ho]
          refine wp_region_held_drew (S := fun W => Below w6.heap.size w6 W /\ (∀ i, W.cell? ⟨sv, i, none⟩ = (#[.slice (some ⟨b, off, none⟩) ws.length cw, .int .i64 smz, .int .i64 toh, .int .i64 top, .bool cyc, .int .i64 sn, .int .i64 old, .int .i64 cpz, .int .i64 sr, .slice (some ⟨br, offr, none⟩) rs.length cr, .slice (some ⟨bl, 0, none⟩) ws.length cl, vp, .map (some bs), .map (some bc)] : Array Value)[i]?) /\ (∀ i, W.cell? ⟨wr.heap.size, i, none⟩ = (#[.int .i64 t, .int .i64 m] : Array Value)[i]?)) (by kernel_rfl) (KP _ b6') (fun hHeld => ?_)
          refine wpAnyH_take (i := 0) (oi := { dst := some 23, op := _, type := _, pos := _, after := _, guard := _ }) (v := .agg #[.int .i64 t, .int .i64 m]) rfl (by kernel_rfl) (by kernel_rfl) (by kernel_rfl) (fun _ _ _ h => h) (Or.inl ⟨by kernel_rfl, ?_⟩) hHeld ?_
          · intro w hSw
            (try dsimp only at hSw)
            go_simp
          try simp only [Act.put, zut, zuu, zuv]
          refine wpAnyH_ready (rs := [1]) (by kernel_rfl) (by simp) ?_
          refine AllReadyH.cons (o := { dst := some 24, op := _, type := _, pos := _, after := _, guard := _ }) rfl (fun K hK => ?_) AllReadyH.nil
          go_simp
          go_at_call 119
          refine (zax t m _).mono ?_
          rw [hr]
          rintro e w' ⟨rfl, hb⟩
          have hB3 := zc (w := w6) hHeld.1 hb
          clear hb
          clear hHeld
          refine hK.out _ _ (KP _ hB3) (fun hHeld => ?_)
          clear hK K
          try simp only [Act.put, zut, zuu, zuv]
          refine wpAnyH_take (i := 2) (oi := { dst := some 25, op := _, type := _, pos := _, after := _, guard := _ }) (v := .bool true) rfl (by kernel_rfl) (by kernel_rfl) (by kernel_rfl) (fun _ _ _ h => h) (Or.inl ⟨by kernel_rfl, ?_⟩) hHeld ?_
          · intro w hSw
            (try dsimp only at hSw)
            go_simp
          try simp only [Act.put, zut, zuu, zuv]
          refine wpAnyH_take (i := 3) (oi := { dst := some 26, op := _, type := _, pos := _, after := _, guard := _ }) (v := .pointer (some ⟨sv, 0, none⟩)) rfl (by kernel_rfl) (by kernel_rfl) (by kernel_rfl) (fun _ _ _ h => h) (Or.inl ⟨by kernel_rfl, ?_⟩) hHeld ?_
          · intro w hSw
            (try dsimp only at hSw)
            go_simp
          try simp only [Act.put, zut, zuu, zuv]
          refine wpAnyH_take (i := 4) (oi := { dst := some 27, op := _, type := _, pos := _, after := _, guard := _ }) (v := .agg #[.int .i64 t, .int .i64 m]) rfl (by kernel_rfl) (by kernel_rfl) (by kernel_rfl) (fun _ _ _ h => h) (Or.inl ⟨by kernel_rfl, ?_⟩) hHeld ?_
          · intro w hSw
            (try dsimp only at hSw)
            go_simp
          try simp only [Act.put, zut, zuu, zuv]
          refine wpAnyH_ready (rs := [5]) (by kernel_rfl) (by simp) ?_
          refine AllReadyH.cons (o := { dst := some 28, op := _, type := _, pos := _, after := _, guard := _ }) rfl (fun K hK => ?_) AllReadyH.nil
          go_simp
          go_at_call 174
          refine (HIO _ t m (zc B6 hHeld.1) hm0).mono ?_
          rw [ho]
          rintro e w'' ⟨rfl, hb⟩
          have hB4 := zc (w := w6) hHeld.1 hb
          clear hb
          clear hHeld
          refine hK.out _ _ (KP _ hB4) (fun hHeld => ?_)
          clear hK K
          try simp only [Act.put, zut, zuu, zuv]
          refine wpAnyH_take (i := 6) (oi := { dst := some 29, op := _, type := _, pos := _, after := _, guard := _ }) (v := .bool false) rfl (by kernel_rfl) (by kernel_rfl) (by kernel_rfl) (fun _ _ _ h => h) (Or.inl ⟨by kernel_rfl, ?_⟩) hHeld ?_
          · intro w hSw
            (try dsimp only at hSw)
            go_simp
          try simp only [Act.put, zut, zuu, zuv]
          refine wpAnyH_take (i := 7) (oi := { dst := some 30, op := _, type := _, pos := _, after := _, guard := _ }) (v := undef) rfl (by kernel_rfl) (by kernel_rfl) (by kernel_rfl) (fun _ _ _ h => h) (Or.inr ⟨by kernel_rfl, rfl⟩) hHeld ?_
          try simp only [Act.put, zut, zuu, zuv]
          refine wpAnyH_take (i := 8) (oi := { dst := some 31, op := _, type := _, pos := _, after := _, guard := _ }) (v := undef) rfl (by kernel_rfl) (by kernel_rfl) (by kernel_rfl) (fun _ _ _ h => h) (Or.inr ⟨by kernel_rfl, rfl⟩) hHeld ?_
          try simp only [Act.put, zut, zuu, zuv]
          refine wpAnyH_take (i := 9) (oi := { dst := some 32, op := _, type := _, pos := _, after := _, guard := _ }) (v := undef) rfl (by kernel_rfl) (by kernel_rfl) (by kernel_rfl) (fun _ _ _ h => h) (Or.inr ⟨by kernel_rfl, rfl⟩) hHeld ?_
          try simp only [Act.put, zut, zuu, zuv]
          refine wpAnyH_take (i := 10) (oi := { dst := some 33, op := _, type := _, pos := _, after := _, guard := _ }) (v := undef) rfl (by kernel_rfl) (by kernel_rfl) (by kernel_rfl) (fun _ _ _ h => h) (Or.inr ⟨by kernel_rfl, rfl⟩) hHeld ?_
          try simp only [Act.put, zut, zuu, zuv]
          refine wpAnyH_take (i := 11) (oi := { dst := some 34, op := _, type := _, pos := _, after := _, guard := _ }) (v := undef) rfl (by kernel_rfl) (by kernel_rfl) (by kernel_rfl) (fun _ _ _ h => h) (Or.inr ⟨by kernel_rfl, rfl⟩) hHeld ?_
          try simp only [Act.put, zut, zuu, zuv]
          refine wpAnyH_take (i := 12) (oi := { dst := some 35, op := _, type := _, pos := _, after := _, guard := _ }) (v := undef) rfl (by kernel_rfl) (by kernel_rfl) (by kernel_rfl) (fun _ _ _ h => h) (Or.inr ⟨by kernel_rfl, rfl⟩) hHeld ?_
          try simp only [Act.put, zut, zuu, zuv]
          refine wpAnyH_take (i := 13) (oi := { dst := some 36, op := _, type := _, pos := _, after := _, guard := _ }) (v := undef) rfl (by kernel_rfl) (by kernel_rfl) (by kernel_rfl) (fun _ _ _ h => h) (Or.inr ⟨by kernel_rfl, rfl⟩) hHeld ?_
          try simp only [Act.put, zut, zuu, zuv]
          refine wpAnyH_take (i := 14) (oi := { dst := some 37, op := _, type := _, pos := _, after := _, guard := _ }) (v := .bool false) rfl (by kernel_rfl) (by kernel_rfl) (by kernel_rfl) (fun _ _ _ h => h) (Or.inl ⟨by kernel_rfl, ?_⟩) hHeld ?_
          · intro w hSw
            (try dsimp only at hSw)
            go_simp
          try simp only [Act.put, zut, zuu, zuv]
          refine wpAnyH_take (i := 15) (oi := { dst := some 38, op := _, type := _, pos := _, after := _, guard := _ }) (v := .bool true) rfl (by kernel_rfl) (by kernel_rfl) (by kernel_rfl) (fun _ _ _ h => h) (Or.inl ⟨by kernel_rfl, ?_⟩) hHeld ?_
          · intro w hSw
            (try dsimp only at hSw)
            go_simp
          try simp only [Act.put, zut, zuu, zuv]
          refine wpAnyH_take (i := 16) (oi := { dst := some 39, op := _, type := _, pos := _, after := _, guard := _ }) (v := .bool true) rfl (by kernel_rfl) (by kernel_rfl) (by kernel_rfl) (fun _ _ _ h => h) (Or.inl ⟨by kernel_rfl, ?_⟩) hHeld ?_
          · intro w hSw
            (try dsimp only at hSw)
            go_simp
          try simp only [Act.put, zut, zuu, zuv]
          refine wpAnyH_done (by kernel_rfl) ?_ _
          go_wp2
          go_ret
          exact ⟨false, rfl, ⟨fun g => by simp at g, fun g => by have := HNO.out g; rw [HBAD.out] at this; simp at this⟩, zc B6 hHeld.1⟩
        | true =>
          cases hu : decide (F <= m /\ m < top) with
          | false =>
            have HBAD : Hid (zcg ws lead F top t m = false) := by show zcg ws lead F top t m = false; unfold zcg; rw [hu, hr, ho]; simp
            first
             | (go_region_held3 (fun W => Below w6.heap.size w6 W /\ (∀ i, W.cell? ⟨sv, i, none⟩ = (#[.slice (some ⟨b, off, none⟩) ws.length cw, .int .i64 smz, .int .i64 toh, .int .i64 top, .bool cyc, .int .i64 sn, .int .i64 old, .int .i64 cpz, .int .i64 sr, .slice (some ⟨br, offr, none⟩) rs.length cr, .slice (some ⟨bl, 0, none⟩) ws.length cl, vp, .map (some bs), .map (some bc)] : Array Value)[i]?) /\ (∀ i, W.cell? ⟨wr.heap.size, i, none⟩ = (#[.int .i64 t, .int .i64 m] : Array Value)[i]?)) (first | assumption | exact KP _ (by assumption) | exact KP _ b6') (first | (go_at_call 119; refine (zax t m _).mono ?_; rw [hr]; rintro e w' ⟨rfl, hb⟩; have hB3 := zc (w := w6) (And.left (by assumption)) hb; clear hb) | (go_at_call 174; refine (HIO _ t m (zc B6 (And.left (by assumption))) hm0).mono ?_; rw [ho]; rintro e w' ⟨rfl, hb⟩; have hB3 := zc (w := w6) (And.left (by assumption)) hb; clear hb) | (go_at_call 175; refine (zca _ _ _ _ _ _ _ _ _ _ _ _ _ _ m F _ t0 t1 s0 s1 HF.out).mono ?_; rw [hu]; rintro e w' ⟨rfl, hb⟩; have hB3 := zc (w := w6) (And.left (by assumption)) hb; clear hb)))
             | fail
            all_goals
             go_wp2
             go_ret
             exact ⟨false, rfl, ⟨fun g => by simp at g, fun g => by have := HNO.out g; rw [HBAD.out] at this; simp at this⟩, zc B6 (And.left (by assumption))⟩
          | true =>
            have HNX : Hid (zbc ws lead F top y (k + 1)) := HST.out (by have := H8.out; unfold zcg; rw [hu, hr, ho, hvk]; simp [this])
            first
             | (go_region_held3 (fun W => Below w6.heap.size w6 W /\ (∀ i, W.cell? ⟨sv, i, none⟩ = (#[.slice (some ⟨b, off, none⟩) ws.length cw, .int .i64 smz, .int .i64 toh, .int .i64 top, .bool cyc, .int .i64 sn, .int .i64 old, .int .i64 cpz, .int .i64 sr, .slice (some ⟨br, offr, none⟩) rs.length cr, .slice (some ⟨bl, 0, none⟩) ws.length cl, vp, .map (some bs), .map (some bc)] : Array Value)[i]?) /\ (∀ i, W.cell? ⟨wr.heap.size, i, none⟩ = (#[.int .i64 t, .int .i64 m] : Array Value)[i]?)) (first | assumption | exact KP _ (by assumption) | exact KP _ b6') (first | (go_at_call 119; refine (zax t m _).mono ?_; rw [hr]; rintro e w' ⟨rfl, hb⟩; have hB3 := zc (w := w6) (And.left (by assumption)) hb; clear hb) | (go_at_call 174; refine (HIO _ t m (zc B6 (And.left (by assumption))) hm0).mono ?_; rw [ho]; rintro e w' ⟨rfl, hb⟩; have hB3 := zc (w := w6) (And.left (by assumption)) hb; clear hb) | (go_at_call 175; refine (zca _ _ _ _ _ _ _ _ _ _ _ _ _ _ m F _ t0 t1 s0 s1 HF.out).mono ?_; rw [hu]; rintro e w' ⟨rfl, hb⟩; have hB3 := zc (w := w6) (And.left (by assumption)) hb; clear hb)))
             | fail
            all_goals
             go_wp2
             first
              | (refine ⟨⟨k + 1, hlt, by go_num, HNX.out, zc B6 (And.left (by assumption))⟩, by simp [intOf]; omega⟩)
              | (go_roundw
                 case rel => exact ⟨k + 1, hlt, by go_num, HNX.out, zc B6 (And.left (by assumption))⟩
                 case measure => simp [intOf]; omega)
  · have hge : (rs.length : Int) <= (k : Int) := by omega
    have hkl : k = rs.length := by omega
    have HRL : Hid (zbc ws lead F top y rs.length) := by show zbc ws lead F top y rs.length; rw [<- hkl]; exact HRO.out
    clear hkl
    go_wp2
    go_ret
    first
     | exact ⟨true, rfl, ⟨fun _ => HRL.out, fun _ => rfl⟩, hB⟩
     | exact Or.inr ⟨rfl, HRL.out, hB⟩
end Go.Proofs.YtmckcnmlhgpnhaaGreat
