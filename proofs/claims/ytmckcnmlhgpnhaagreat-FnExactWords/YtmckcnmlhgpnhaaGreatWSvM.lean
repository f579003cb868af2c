/- - -/
import Derived.Test.YtmckcnmlhgpnhaaGreatWSvG
namespace Go.Proofs.YtmckcnmlhgpnhaaGreat
set_option maxRecDepth 20000
open Go.RowKit Go.Maps
set_option linter.unusedSimpArgs false
set_option linter.unusedVariables false
theorem ze6 {w w1 w2 : World} (h : Below w.heap.size w w1) (k : Below w.heap.size w1 w2) : Below w.heap.size w w2 := h.trans k
theorem zls (b off cw : Nat) (ws : List Int) (smz toh top : Int) (cyc : Bool) (sn old cpz sr : Int) (ar : Option Addr) (cr : Nat) (rs : List (Int × Int)) (sv bl cl bs bc : Nat) (vp : Value) (lead : Nat -> Int) (w : World) (lsv : sv < w.heap.size) (KS : ∀ i, w.cell? ⟨sv, i, none⟩ = (#[.slice (some ⟨b, off, none⟩) ws.length cw, .int .i64 smz, .int .i64 toh, .int .i64 top, .bool cyc, .int .i64 sn, .int .i64 old, .int .i64 cpz, .int .i64 sr, .slice ar rs.length cr, .slice (some ⟨bl, 0, none⟩) ws.length cl, vp, .map (some bs), .map (some bc)] : Array Value)[i]?) (hcy : cyc = false) :
 Calls Tryz.prog 133 #[.pointer (some ⟨sv, 0, none⟩)] w fun e w' => e = .returned (.bool (zgm sn old cpz)) /\ w' = w := by
 by_cases h1 : sn = 0
 · by_cases h2 : old = 0
   · by_cases h3 : cpz = 0
     · have e : zgm sn old cpz = true := decide_eq_true ⟨h1, h2, h3⟩
       rw [e]
       have e1 : (sn == 0) = true := by simpa using h1
       have e2 : (old == 0) = true := by simpa using h2
       have e3 : (cpz == 0) = true := by simpa using h3
       clear h1 h2 h3
       go_enter Tryz.func133, Tryz.ntmps133
       go_wp2
       go_ret
       exact ⟨rfl, rfl⟩
     · have e : zgm sn old cpz = false := decide_eq_false (fun g => h3 g.2.2)
       rw [e]
       have e1 : (sn == 0) = true := by simpa using h1
       have e2 : (old == 0) = true := by simpa using h2
       have e3 : (cpz == 0) = false := by simpa using h3
       clear h1 h2 h3
       go_enter Tryz.func133, Tryz.ntmps133
       go_wp2
       go_ret
       exact ⟨rfl, rfl⟩
   · have e : zgm sn old cpz = false := decide_eq_false (fun g => h2 g.2.1)
     rw [e]
     have e1 : (sn == 0) = true := by simpa using h1
     have e2 : (old == 0) = false := by simpa using h2
     clear h1 h2
     go_enter Tryz.func133, Tryz.ntmps133
     go_wp2
     go_ret
     exact ⟨rfl, rfl⟩
 · have e : zgm sn old cpz = false := decide_eq_false (fun g => h1 g.1)
   rw [e]
   have e1 : (sn == 0) = false := by simpa using h1
   clear h1
   go_enter Tryz.func133, Tryz.ntmps133
   go_wp2
   go_ret
   exact ⟨rfl, rfl⟩
set_option maxHeartbeats 4000000 in
theorem zm7 (b off cw : Nat) (ws : List Int) (smz toh top : Int) (cyc : Bool) (sn old cpz sr : Int) (ar : Option Addr) (cr : Nat) (rs : List (Int × Int)) (sv bl cl bs bc : Nat) (vp : Value) (lead : Nat -> Int) (F : Int) (w : World) (lsv : sv < w.heap.size) (KS : ∀ i, w.cell? ⟨sv, i, none⟩ = (#[.slice (some ⟨b, off, none⟩) ws.length cw, .int .i64 smz, .int .i64 toh, .int .i64 top, .bool cyc, .int .i64 sn, .int .i64 old, .int .i64 cpz, .int .i64 sr, .slice ar rs.length cr, .slice (some ⟨bl, 0, none⟩) ws.length cl, vp, .map (some bs), .map (some bc)] : Array Value)[i]?) (lbl : bl < w.heap.size) (hl : ∀ i, i < ws.length -> w.cell? ⟨bl, i, none⟩ = some (.int .i64 (lead i))) (hb : b < w.heap.size) (hc : ∀ i, i < ws.length -> w.cell? ⟨b, off + i, none⟩ = some (.int .u64 (za ws i))) (hn : ws.length <= 1048576) (hw : zg ws) (hcy : cyc = true) (t0 : 0 <= toh) (t1 : toh <= 1) (s0 : 256 <= smz) (s1 : smz <= 4000) (hF : toh * smz + 1 = F) (hT : top <= ws.length) (h1 : (sn != top) = true) (h2 : zb0 F top lead sn = false) :
 Calls Tryz.prog 133 #[.pointer (some ⟨sv, 0, none⟩)] w fun e w' => e = .returned (.bool false) /\ Below w.heap.size w w' := by
 have HF : Hid (toh * smz + 1 = F) := hF
 have hst : (decide (F <= sn /\ sn < top) && (lead sn.toNat == sn)) = false := h2
 have HL : Hid (∀ i, i < ws.length -> w.cell? ⟨bl, i, none⟩ = some (.int .i64 (lead i))) := hl
 have HC : Hid (∀ i, i < ws.length -> w.cell? ⟨b, off + i, none⟩ = some (.int .u64 (za ws i))) := hc
 have KP : ∀ W, Below w.heap.size w W -> (Below w.heap.size w W /\ (∀ i, W.cell? ⟨sv, i, none⟩ = (#[.slice (some ⟨b, off, none⟩) ws.length cw, .int .i64 smz, .int .i64 toh, .int .i64 top, .bool cyc, .int .i64 sn, .int .i64 old, .int .i64 cpz, .int .i64 sr, .slice ar rs.length cr, .slice (some ⟨bl, 0, none⟩) ws.length cl, vp, .map (some bs), .map (some bc)] : Array Value)[i]?)) := fun W hW => ⟨hW, ze KS hW lsv⟩
 have HSt : ∀ W, Below w.heap.size w W -> Calls Tryz.prog 165 #[.pointer (some ⟨sv, 0, none⟩), .int .i64 sn] W fun e w' => e = .returned (.bool false) /\ Below W.heap.size W w' := fun W hW => by
  rw [<- hst]
  exact zcw b off cw ws smz toh top cyc sn old cpz sr ar cr rs sv bl cl bs bc vp lead sn F W (Nat.lt_of_lt_of_le lsv hW.size) (ze KS hW lsv) (Nat.lt_of_lt_of_le lbl hW.size) (fun i hi => by rw [hW.cell (p := ⟨bl, i, none⟩) lbl]; exact HL.out i hi) (zh hb HC.out hW).1 (zh hb HC.out hW).2 hn hw t0 t1 s0 s1 HF.out hT
 clear hF hl hc h2 hst
 go_enter Tryz.func133, Tryz.ntmps133
 go_wp2
 have b1' := (Below.refl w.heap.size w).drew
 go_region_held3 (fun W => Below w.heap.size w W /\ (∀ i, W.cell? ⟨sv, i, none⟩ = (#[.slice (some ⟨b, off, none⟩) ws.length cw, .int .i64 smz, .int .i64 toh, .int .i64 top, .bool cyc, .int .i64 sn, .int .i64 old, .int .i64 cpz, .int .i64 sr, .slice ar rs.length cr, .slice (some ⟨bl, 0, none⟩) ws.length cl, vp, .map (some bs), .map (some bc)] : Array Value)[i]?)) (first | exact KP _ (by assumption) | exact KP _ b1') (first | (go_at_call 165; refine (HSt _ (And.left (by assumption))).mono ?_; rintro e w' ⟨rfl, hb⟩; have hB3 := zc (w := w) (And.left (by assumption)) hb; clear hb))
 all_goals
  go_wp2
  go_ret
  exact ⟨rfl, by assumption⟩
set_option maxHeartbeats 8000000 in
theorem zo4 (b off cw : Nat) (ws : List Int) (smz toh top : Int) (cyc : Bool) (sn old cpz sr : Int) (ar : Option Addr) (cr : Nat) (rs : List (Int × Int)) (sv bl cl bs bc : Nat) (vp : Value) (lead : Nat -> Int) (F F2 E2 : Int) (w : World) (lsv : sv < w.heap.size) (KS : ∀ i, w.cell? ⟨sv, i, none⟩ = (#[.slice (some ⟨b, off, none⟩) ws.length cw, .int .i64 smz, .int .i64 toh, .int .i64 top, .bool cyc, .int .i64 sn, .int .i64 old, .int .i64 cpz, .int .i64 sr, .slice ar rs.length cr, .slice (some ⟨bl, 0, none⟩) ws.length cl, vp, .map (some bs), .map (some bc)] : Array Value)[i]?) (lbl : bl < w.heap.size) (hl : ∀ i, i < ws.length -> w.cell? ⟨bl, i, none⟩ = some (.int .i64 (lead i))) (hb : b < w.heap.size) (hc : ∀ i, i < ws.length -> w.cell? ⟨b, off + i, none⟩ = some (.int .u64 (za ws i))) (hn : ws.length <= 1048576) (hw : zg ws) (hcy : cyc = true) (t0 : 0 <= toh) (t1 : toh <= 1) (s0 : 256 <= smz) (s1 : smz <= 4000) (hF : toh * smz + 1 = F) (hF2 : (1 - toh) * smz + 1 = F2) (hE2 : (1 - toh + 1) * smz = E2) (hT : top <= ws.length) (h1 : (sn != top) = false \/ (sn != top) = true /\ zb0 F top lead sn = true) (h3 : inB old F2 E2 = false) :
 Calls Tryz.prog 133 #[.pointer (some ⟨sv, 0, none⟩)] w fun e w' => e = .returned (.bool false) /\ Below w.heap.size w w' := by
 have HF : Hid (toh * smz + 1 = F) := hF
 have HF2 : Hid ((1 - toh) * smz + 1 = F2) := hF2
 have HE2 : Hid ((1 - toh + 1) * smz = E2) := hE2
 have u0 : 0 <= 1 - toh := by omega
 have u1 : 1 - toh <= 1 := by omega
 have HL : Hid (∀ i, i < ws.length -> w.cell? ⟨bl, i, none⟩ = some (.int .i64 (lead i))) := hl
 have HC : Hid (∀ i, i < ws.length -> w.cell? ⟨b, off + i, none⟩ = some (.int .u64 (za ws i))) := hc
 have KP : ∀ W, Below w.heap.size w W -> (Below w.heap.size w W /\ (∀ i, W.cell? ⟨sv, i, none⟩ = (#[.slice (some ⟨b, off, none⟩) ws.length cw, .int .i64 smz, .int .i64 toh, .int .i64 top, .bool cyc, .int .i64 sn, .int .i64 old, .int .i64 cpz, .int .i64 sr, .slice ar rs.length cr, .slice (some ⟨bl, 0, none⟩) ws.length cl, vp, .map (some bs), .map (some bc)] : Array Value)[i]?)) := fun W hW => ⟨hW, ze KS hW lsv⟩
 have HSt : zb0 F top lead sn = true -> ∀ W, Below w.heap.size w W -> Calls Tryz.prog 165 #[.pointer (some ⟨sv, 0, none⟩), .int .i64 sn] W fun e w' => e = .returned (.bool true) /\ Below W.heap.size W w' := fun hst W hW => by
  rw [<- hst]
  exact zcw b off cw ws smz toh top cyc sn old cpz sr ar cr rs sv bl cl bs bc vp lead sn F W (Nat.lt_of_lt_of_le lsv hW.size) (ze KS hW lsv) (Nat.lt_of_lt_of_le lbl hW.size) (fun i hi => by rw [hW.cell (p := ⟨bl, i, none⟩) lbl]; exact HL.out i hi) (zh hb HC.out hW).1 (zh hb HC.out hW).2 hn hw t0 t1 s0 s1 HF.out hT
 clear hF hl hc hF2 hE2
 go_enter Tryz.func133, Tryz.ntmps133
 go_upto_region 3 with fail
 go_cut [51] from 31 to 50 (fun s51 wc => s51 = .bool false /\ Below w.heap.size w wc)
 case first =>
  rcases h1 with h1 | ⟨h1, h2⟩
  · go_quiet (fail)
    go_wp2_with fail
    go_meet
    exact ⟨rfl, below_drewN (Below.refl _ _) _⟩
  · have hst := HSt h2
    have b1' := (Below.refl w.heap.size w).drew
    clear HSt
    go_region_held3 (fun W => Below w.heap.size w W /\ (∀ i, W.cell? ⟨sv, i, none⟩ = (#[.slice (some ⟨b, off, none⟩) ws.length cw, .int .i64 smz, .int .i64 toh, .int .i64 top, .bool cyc, .int .i64 sn, .int .i64 old, .int .i64 cpz, .int .i64 sr, .slice ar rs.length cr, .slice (some ⟨bl, 0, none⟩) ws.length cl, vp, .map (some bs), .map (some bc)] : Array Value)[i]?)) (first | exact KP _ (by assumption) | exact KP _ b1') (first | (go_at_call 165; refine (hst _ (And.left (by assumption))).mono ?_; rintro e w' ⟨rfl, hb⟩; have hB3 := zc (w := w) (And.left (by assumption)) hb; clear hb))
    all_goals (go_wp2_with fail; go_meet; exact ⟨rfl, by assumption⟩)
 case rest =>
  obtain ⟨rfl, hBc⟩ := hcut
  have KSc := ze KS hBc lsv
  have lsc : sv < wc.heap.size := Nat.lt_of_lt_of_le lsv hBc.size
  clear KP KS HSt h1
  go_upto_region 5 with fail
  have KPc : ∀ W, Below wc.heap.size wc W -> (Below wc.heap.size wc W /\ (∀ i, W.cell? ⟨sv, i, none⟩ = (#[.slice (some ⟨b, off, none⟩) ws.length cw, .int .i64 smz, .int .i64 toh, .int .i64 top, .bool cyc, .int .i64 sn, .int .i64 old, .int .i64 cpz, .int .i64 sr, .slice ar rs.length cr, .slice (some ⟨bl, 0, none⟩) ws.length cl, vp, .map (some bs), .map (some bc)] : Array Value)[i]?)) := fun W hW => ⟨hW, ze KSc hW lsc⟩
  have b1c := (Below.refl wc.heap.size wc).drew
  refine wp_region_held_drew (S := fun W => Below wc.heap.size wc W /\ (∀ i, W.cell? ⟨sv, i, none⟩ = (#[.slice (some ⟨b, off, none⟩) ws.length cw, .int .i64 smz, .int .i64 toh, .int .i64 top, .bool cyc, .int .i64 sn, .int .i64 old, .int .i64 cpz, .int .i64 sr, .slice ar rs.length cr, .slice (some ⟨bl, 0, none⟩) ws.length cl, vp, .map (some bs), .map (some bc)] : Array Value)[i]?)) (by kernel_rfl) (KPc _ b1c) (fun hHeld => ?_)
  refine wpAnyH_take (i := 0) (oi := { dst := some 52, op := _, type := _, pos := _, after := _, guard := _ }) (v := .pointer (some ⟨sv, 0, none⟩)) rfl (by kernel_rfl) (by kernel_rfl) (by kernel_rfl) (fun _ _ _ h => h) (Or.inl ⟨by kernel_rfl, ?_⟩) hHeld ?_
  · intro w hSw
    (try dsimp only at hSw)
    go_simp
  try simp only [Act.put, zyd, zye, zyf]
  refine wpAnyH_take (i := 1) (oi := { dst := some 53, op := _, type := _, pos := _, after := _, guard := _ }) (v := .pointer (some ⟨sv, 0, none⟩)) rfl (by kernel_rfl) (by kernel_rfl) (by kernel_rfl) (fun _ _ _ h => h) (Or.inl ⟨by kernel_rfl, ?_⟩) hHeld ?_
  · intro w hSw
    (try dsimp only at hSw)
    go_simp
  try simp only [Act.put, zyd, zye, zyf]
  refine wpAnyH_take (i := 2) (oi := { dst := some 54, op := _, type := _, pos := _, after := _, guard := _ }) (v := .pointer (some ⟨sv, 0, none⟩)) rfl (by kernel_rfl) (by kernel_rfl) (by kernel_rfl) (fun _ _ _ h => h) (Or.inl ⟨by kernel_rfl, ?_⟩) hHeld ?_
  · intro w hSw
    (try dsimp only at hSw)
    go_simp
  try simp only [Act.put, zyd, zye, zyf]
  refine wpAnyH_take (i := 3) (oi := { dst := some 55, op := _, type := _, pos := _, after := _, guard := _ }) (v := (.agg #[.slice (some ⟨b, off, none⟩) ws.length cw, .int .i64 smz, .int .i64 toh, .int .i64 top, .bool cyc, .int .i64 sn, .int .i64 old, .int .i64 cpz, .int .i64 sr, .slice ar rs.length cr])) rfl (by kernel_rfl) (by kernel_rfl) (by kernel_rfl) (fun _ _ _ h => h) (Or.inl ⟨by kernel_rfl, ?_⟩) hHeld ?_
  · intro w hSw
    (try dsimp only at hSw)
    go_simp
  try simp only [Act.put, zyd, zye, zyf]
  refine wpAnyH_take (i := 4) (oi := { dst := some 56, op := _, type := _, pos := _, after := _, guard := _ }) (v := .pointer (some ⟨sv, 0, none⟩)) rfl (by kernel_rfl) (by kernel_rfl) (by kernel_rfl) (fun _ _ _ h => h) (Or.inl ⟨by kernel_rfl, ?_⟩) hHeld ?_
  · intro w hSw
    (try dsimp only at hSw)
    go_simp
  try simp only [Act.put, zyd, zye, zyf]
  refine wpAnyH_take (i := 5) (oi := { dst := some 57, op := _, type := _, pos := _, after := _, guard := _ }) (v := .pointer (some ⟨sv, 0, none⟩)) rfl (by kernel_rfl) (by kernel_rfl) (by kernel_rfl) (fun _ _ _ h => h) (Or.inl ⟨by kernel_rfl, ?_⟩) hHeld ?_
  · intro w hSw
    (try dsimp only at hSw)
    go_simp
  try simp only [Act.put, zyd, zye, zyf]
  refine wpAnyH_take (i := 6) (oi := { dst := some 58, op := _, type := _, pos := _, after := _, guard := _ }) (v := .pointer (some ⟨sv, 0, none⟩)) rfl (by kernel_rfl) (by kernel_rfl) (by kernel_rfl) (fun _ _ _ h => h) (Or.inl ⟨by kernel_rfl, ?_⟩) hHeld ?_
  · intro w hSw
    (try dsimp only at hSw)
    go_simp
  try simp only [Act.put, zyd, zye, zyf]
  refine wpAnyH_take (i := 7) (oi := { dst := some 59, op := _, type := _, pos := _, after := _, guard := _ }) (v := (.agg #[.slice (some ⟨b, off, none⟩) ws.length cw, .int .i64 smz, .int .i64 toh, .int .i64 top, .bool cyc, .int .i64 sn, .int .i64 old, .int .i64 cpz, .int .i64 sr, .slice ar rs.length cr])) rfl (by kernel_rfl) (by kernel_rfl) (by kernel_rfl) (fun _ _ _ h => h) (Or.inl ⟨by kernel_rfl, ?_⟩) hHeld ?_
  · intro w hSw
    (try dsimp only at hSw)
    go_simp
  try simp only [Act.put, zyd, zye, zyf]
  refine wpAnyH_take (i := 9) (oi := { dst := some 61, op := _, type := _, pos := _, after := _, guard := _ }) (v := .pointer (some ⟨sv, 0, none⟩)) rfl (by kernel_rfl) (by kernel_rfl) (by kernel_rfl) (fun _ _ _ h => h) (Or.inl ⟨by kernel_rfl, ?_⟩) hHeld ?_
  · intro w hSw
    (try dsimp only at hSw)
    go_simp
  try simp only [Act.put, zyd, zye, zyf]
  refine wpAnyH_take (i := 10) (oi := { dst := some 62, op := _, type := _, pos := _, after := _, guard := _ }) (v := .pointer (some ⟨sv, 0, none⟩)) rfl (by kernel_rfl) (by kernel_rfl) (by kernel_rfl) (fun _ _ _ h => h) (Or.inl ⟨by kernel_rfl, ?_⟩) hHeld ?_
  · intro w hSw
    (try dsimp only at hSw)
    go_simp
  try simp only [Act.put, zyd, zye, zyf]
  refine wpAnyH_take (i := 11) (oi := { dst := some 63, op := _, type := _, pos := _, after := _, guard := _ }) (v := .pointer (some ⟨sv, 0, none⟩)) rfl (by kernel_rfl) (by kernel_rfl) (by kernel_rfl) (fun _ _ _ h => h) (Or.inl ⟨by kernel_rfl, ?_⟩) hHeld ?_
  · intro w hSw
    (try dsimp only at hSw)
    go_simp
  try simp only [Act.put, zyd, zye, zyf]
  refine wpAnyH_take (i := 12) (oi := { dst := some 64, op := _, type := _, pos := _, after := _, guard := _ }) (v := .pointer (some ⟨sv, 6, none⟩)) rfl (by kernel_rfl) (by kernel_rfl) (by kernel_rfl) (fun _ _ _ h => h) (Or.inl ⟨by kernel_rfl, ?_⟩) hHeld ?_
  · intro w hSw
    (try dsimp only at hSw)
    go_simp
  try simp only [Act.put, zyd, zye, zyf]
  refine wpAnyH_take (i := 13) (oi := { dst := some 65, op := _, type := _, pos := _, after := _, guard := _ }) (v := .int .i64 old) rfl (by kernel_rfl) (by kernel_rfl) (by kernel_rfl) (fun _ _ _ h => h) (Or.inl ⟨by kernel_rfl, ?_⟩) hHeld ?_
  · intro w hSw
    (try dsimp only at hSw)
    go_simp
  try simp only [Act.put, zyd, zye, zyf]
  refine wpAnyH_ready (rs := [8]) (by kernel_rfl) (by simp) ?_
  refine AllReadyH.cons (o := { dst := some 60, op := _, type := _, pos := _, after := _, guard := _ }) rfl (fun K hK => ?_) AllReadyH.nil
  go_simp
  go_at_call 109
  refine (zf4 _ _ _ _ _ _ _ _ _ _ _ _ _ _ _ t0 t1).mono ?_
  rintro e w' ⟨rfl, hb⟩
  have hB3 := zc (w := wc) hHeld.1 hb
  clear hb
  clear hHeld
  refine hK.out _ _ (KPc _ hB3) (fun hHeld => ?_)
  clear hK K
  try simp only [Act.put, zyd, zye, zyf]
  refine wpAnyH_ready (rs := [14]) (by kernel_rfl) (by simp) ?_
  refine AllReadyH.cons (o := { dst := some 66, op := _, type := _, pos := _, after := _, guard := _ }) rfl (fun K hK => ?_) AllReadyH.nil
  go_simp
  go_at_call 113
  refine (zdl _ _ _ _ _ _ _ _ _ _ _ _ _ _ (1 - toh) old F2 E2 _ u0 u1 s0 s1 HF2.out HE2.out).mono ?_
  rw [h3]
  rintro e w'' ⟨rfl, hb⟩
  have hB4 := zc (w := wc) hHeld.1 hb
  clear hb
  clear hHeld
  refine hK.out _ _ (KPc _ hB4) (fun hHeld => ?_)
  clear hK K
  try simp only [Act.put, zyd, zye, zyf]
  refine wpAnyH_take (i := 15) (oi := { dst := some 67, op := _, type := _, pos := _, after := _, guard := _ }) (v := .bool false) rfl (by kernel_rfl) (by kernel_rfl) (by kernel_rfl) (fun _ _ _ h => h) (Or.inl ⟨by kernel_rfl, ?_⟩) hHeld ?_
  · intro w hSw
    (try dsimp only at hSw)
    go_simp
  try simp only [Act.put, zyd, zye, zyf]
  refine wpAnyH_take (i := 16) (oi := { dst := some 68, op := _, type := _, pos := _, after := _, guard := _ }) (v := undef) rfl (by kernel_rfl) (by kernel_rfl) (by kernel_rfl) (fun _ _ _ h => h) (Or.inr ⟨by kernel_rfl, rfl⟩) hHeld ?_
  try simp only [Act.put, zyd, zye, zyf]
  refine wpAnyH_take (i := 17) (oi := { dst := some 69, op := _, type := _, pos := _, after := _, guard := _ }) (v := undef) rfl (by kernel_rfl) (by kernel_rfl) (by kernel_rfl) (fun _ _ _ h => h) (Or.inr ⟨by kernel_rfl, rfl⟩) hHeld ?_
  try simp only [Act.put, zyd, zye, zyf]
  refine wpAnyH_take (i := 18) (oi := { dst := some 70, op := _, type := _, pos := _, after := _, guard := _ }) (v := .bool false) rfl (by kernel_rfl) (by kernel_rfl) (by kernel_rfl) (fun _ _ _ h => h) (Or.inl ⟨by kernel_rfl, ?_⟩) hHeld ?_
  · intro w hSw
    (try dsimp only at hSw)
    go_simp
  try simp only [Act.put, zyd, zye, zyf]
  refine wpAnyH_take (i := 19) (oi := { dst := some 71, op := _, type := _, pos := _, after := _, guard := _ }) (v := .bool false) rfl (by kernel_rfl) (by kernel_rfl) (by kernel_rfl) (fun _ _ _ h => h) (Or.inl ⟨by kernel_rfl, ?_⟩) hHeld ?_
  · intro w hSw
    (try dsimp only at hSw)
    go_simp
  try simp only [Act.put, zyd, zye, zyf]
  refine wpAnyH_take (i := 20) (oi := { dst := some 72, op := _, type := _, pos := _, after := _, guard := _ }) (v := undef) rfl (by kernel_rfl) (by kernel_rfl) (by kernel_rfl) (fun _ _ _ h => h) (Or.inr ⟨by kernel_rfl, rfl⟩) hHeld ?_
  try simp only [Act.put, zyd, zye, zyf]
  refine wpAnyH_take (i := 21) (oi := { dst := some 73, op := _, type := _, pos := _, after := _, guard := _ }) (v := undef) rfl (by kernel_rfl) (by kernel_rfl) (by kernel_rfl) (fun _ _ _ h => h) (Or.inr ⟨by kernel_rfl, rfl⟩) hHeld ?_
  try simp only [Act.put, zyd, zye, zyf]
  refine wpAnyH_take (i := 22) (oi := { dst := some 74, op := _, type := _, pos := _, after := _, guard := _ }) (v := undef) rfl (by kernel_rfl) (by kernel_rfl) (by kernel_rfl) (fun _ _ _ h => h) (Or.inr ⟨by kernel_rfl, rfl⟩) hHeld ?_
  try simp only [Act.put, zyd, zye, zyf]
  refine wpAnyH_take (i := 23) (oi := { dst := some 75, op := _, type := _, pos := _, after := _, guard := _ }) (v := undef) rfl (by kernel_rfl) (by kernel_rfl) (by kernel_rfl) (fun _ _ _ h => h) (Or.inr ⟨by kernel_rfl, rfl⟩) hHeld ?_
  try simp only [Act.put, zyd, zye, zyf]
  refine wpAnyH_take (i := 24) (oi := { dst := some 76, op := _, type := _, pos := _, after := _, guard := _ }) (v := undef) rfl (by kernel_rfl) (by kernel_rfl) (by kernel_rfl) (fun _ _ _ h => h) (Or.inr ⟨by kernel_rfl, rfl⟩) hHeld ?_
  try simp only [Act.put, zyd, zye, zyf]
  refine wpAnyH_take (i := 25) (oi := { dst := some 77, op := _, type := _, pos := _, after := _, guard := _ }) (v := undef) rfl (by kernel_rfl) (by kernel_rfl) (by kernel_rfl) (fun _ _ _ h => h) (Or.inr ⟨by kernel_rfl, rfl⟩) hHeld ?_
  try simp only [Act.put, zyd, zye, zyf]
  refine wpAnyH_take (i := 26) (oi := { dst := some 78, op := _, type := _, pos := _, after := _, guard := _ }) (v := .bool false) rfl (by kernel_rfl) (by kernel_rfl) (by kernel_rfl) (fun _ _ _ h => h) (Or.inl ⟨by kernel_rfl, ?_⟩) hHeld ?_
  · intro w hSw
    (try dsimp only at hSw)
    go_simp
  try simp only [Act.put, zyd, zye, zyf]
  refine wpAnyH_take (i := 27) (oi := { dst := some 2, op := _, type := _, pos := _, after := _, guard := _ }) (v := .bool false) rfl (by kernel_rfl) (by kernel_rfl) (by kernel_rfl) (fun _ _ _ h => h) (Or.inl ⟨by kernel_rfl, ?_⟩) hHeld ?_
  · intro w hSw
    (try dsimp only at hSw)
    go_simp
  try simp only [Act.put, zyd, zye, zyf]
  refine wpAnyH_done (by kernel_rfl) ?_ _
  go_wp2
  go_ret
  exact ⟨rfl, zc hBc hHeld.1⟩
theorem zfg {b off cw : Nat} {ws : List Int} {smz toh top : Int} {cyc : Bool} {sn old cpz sr : Int} {ar : Option Addr} {cr : Nat} {rs : List (Int × Int)} {sv bl cl bs bc : Nat} {vp : Value} {W : World} (KS : ∀ i, W.cell? ⟨sv, i, none⟩ = (#[.slice (some ⟨b, off, none⟩) ws.length cw, .int .i64 smz, .int .i64 toh, .int .i64 top, .bool cyc, .int .i64 sn, .int .i64 old, .int .i64 cpz, .int .i64 sr, .slice ar rs.length cr, .slice (some ⟨bl, 0, none⟩) ws.length cl, vp, .map (some bs), .map (some bc)] : Array Value)[i]?) : (W.cell? ⟨sv, 0, none⟩ = some (.slice (some ⟨b, off, none⟩) ws.length cw) /\ W.cell? ⟨sv, 1, none⟩ = some (.int .i64 smz) /\ W.cell? ⟨sv, 2, none⟩ = some (.int .i64 toh) /\ W.cell? ⟨sv, 3, none⟩ = some (.int .i64 top) /\ W.cell? ⟨sv, 4, none⟩ = some (.bool cyc) /\ W.cell? ⟨sv, 5, none⟩ = some (.int .i64 sn) /\ W.cell? ⟨sv, 6, none⟩ = some (.int .i64 old) /\ W.cell? ⟨sv, 7, none⟩ = some (.int .i64 cpz) /\ W.cell? ⟨sv, 8, none⟩ = some (.int .i64 sr) /\ W.cell? ⟨sv, 9, none⟩ = some (.slice ar rs.length cr)) :=
 ⟨KS 0, KS 1, KS 2, KS 3, KS 4, KS 5, KS 6, KS 7, KS 8, KS 9⟩
set_option maxHeartbeats 8000000 in
theorem zm5 (b off cw : Nat) (ws : List Int) (smz toh top : Int) (cyc : Bool) (sn old cpz sr : Int) (ar : Option Addr) (cr : Nat) (rs : List (Int × Int)) (B Bp sv bl cl bs bc : Nat) (vp : Value) (S T F Od : Nat) (E2 : Int) (L : List Nat) (w : World) (hS : zad B Bp w sv bl bs bc ws.length #[.slice (some ⟨b, off, none⟩) ws.length cw, .int .i64 smz, .int .i64 toh, .int .i64 top, .bool cyc, .int .i64 sn, .int .i64 old, .int .i64 cpz, .int .i64 sr, .slice ar rs.length cr, .slice (some ⟨bl, 0, none⟩) ws.length cl, vp, .map (some bs), .map (some bc)] vp (zm ws L []) (L ++ zl ws []) L.length 0 (za4 ws (L ++ zl ws [])) (zbn ws [])) (hb : b < w.heap.size) (hbB : b < B) (hc : ∀ i, i < ws.length -> w.cell? ⟨b, off + i, none⟩ = some (.int .u64 (za ws i))) (hn : ws.length <= 8000) (hw : zg ws) (hcy : cyc = true) (t0 : 0 <= toh) (t1 : toh <= 1) (s0 : 256 <= smz) (s1 : smz <= 4000) (hSe : toh * smz + 1 = S) (hT : top = T) (hF : (1 - toh) * smz + 1 = F) (hE2 : (1 - toh + 1) * smz = E2) (hOd : old = Od) (hS1 : 1 <= S) (hTn : T <= ws.length) (hFO : F <= Od) (hOn : Od <= ws.length) (hap : T <= F \/ Od <= S) (hL : zn (nx1 ws sr) S T L) (hLn : (zag ws L).Nodup) (h1 : (sn != top) = false \/ (sn != top) = true /\ zb0 (S : Int) top (zm ws L []) sn = true) (h3 : inB old (F : Int) E2 = true) (hG : ¬ zeb ws sr L F Od cpz) :
 Calls Tryz.prog 133 #[.pointer (some ⟨sv, 0, none⟩)] w fun e w' => e = .returned (.bool false) /\ Below B w w' := by
 have HSe : Hid (toh * smz + 1 = (S : Int)) := hSe
 have HF2 : Hid ((1 - toh) * smz + 1 = (F : Int)) := hF
 have HE2 : Hid ((1 - toh + 1) * smz = E2) := hE2
 have HT : Hid (top = (T : Int)) := hT
 have HOd : Hid (old = (Od : Int)) := hOd
 have HL : Hid (zn (nx1 ws sr) S T L) := hL
 have HLN : Hid ((zag ws L).Nodup) := hLn
 have HIN : Hid (inB old (F : Int) E2 = true) := h3
 have hTl : top <= ws.length := by omega
 have hn' : ws.length <= 1048576 := by omega
 have u0 : 0 <= 1 - toh := by omega
 have u1 : 1 - toh <= 1 := by omega
 have hBw : B <= w.heap.size := by have := hS.ge; have := hS.lt; have := hS.size; omega
 have HC : Hid (∀ i, i < ws.length -> w.cell? ⟨b, off + i, none⟩ = some (.int .u64 (za ws i))) := hc
 have KS := hS.cells
 have lsv := hS.lsv
 have KP : ∀ W, Below w.heap.size w W -> (Below w.heap.size w W /\ (∀ i, W.cell? ⟨sv, i, none⟩ = (#[.slice (some ⟨b, off, none⟩) ws.length cw, .int .i64 smz, .int .i64 toh, .int .i64 top, .bool cyc, .int .i64 sn, .int .i64 old, .int .i64 cpz, .int .i64 sr, .slice ar rs.length cr, .slice (some ⟨bl, 0, none⟩) ws.length cl, vp, .map (some bs), .map (some bc)] : Array Value)[i]?)) := fun W hW => ⟨hW, ze KS hW lsv⟩
 have HSt : zb0 (S : Int) top (zm ws L []) sn = true -> ∀ W, Below w.heap.size w W -> Calls Tryz.prog 165 #[.pointer (some ⟨sv, 0, none⟩), .int .i64 sn] W fun e w' => e = .returned (.bool true) /\ Below W.heap.size W w' := fun hst W hW => by
  rw [<- hst]
  have SW := hS.below hW
  exact zcw b off cw ws smz toh top cyc sn old cpz sr ar cr rs sv bl cl bs bc vp (zm ws L []) sn (S : Int) W SW.lsv SW.cells SW.lbl SW.leads (zh hb HC.out hW).1 (zh hb HC.out hW).2 hn' hw t0 t1 s0 s1 HSe.out hTl
 clear hSe hF hE2 hT hOd hL hLn h3 hc
 go_enter Tryz.func133, Tryz.ntmps133
 go_upto_region 3 with fail
 go_cut [51] from 31 to 50 (fun s51 wc => s51 = .bool false /\ Below w.heap.size w wc)
 case first =>
  rcases h1 with h1 | ⟨h1, h2⟩
  · go_quiet (fail)
    go_wp2_with fail
    go_meet
    exact ⟨rfl, below_drewN (Below.refl _ _) _⟩
  · have hst := HSt h2
    have b1' := (Below.refl w.heap.size w).drew
    clear HSt
    go_region_held3 (fun W => Below w.heap.size w W /\ (∀ i, W.cell? ⟨sv, i, none⟩ = (#[.slice (some ⟨b, off, none⟩) ws.length cw, .int .i64 smz, .int .i64 toh, .int .i64 top, .bool cyc, .int .i64 sn, .int .i64 old, .int .i64 cpz, .int .i64 sr, .slice ar rs.length cr, .slice (some ⟨bl, 0, none⟩) ws.length cl, vp, .map (some bs), .map (some bc)] : Array Value)[i]?)) (first | exact KP _ (by assumption) | exact KP _ b1') (first | (go_at_call 165; refine (hst _ (And.left (by assumption))).mono ?_; rintro e w' ⟨rfl, hb⟩; have hB3 := zc (w := w) (And.left (by assumption)) hb; clear hb))
    all_goals (go_wp2_with fail; go_meet; exact ⟨rfl, by assumption⟩)
 case rest =>
  obtain ⟨rfl, hBc⟩ := hcut
  have Sc := hS.below hBc
  have Bc : Below B w wc := zat hBc hBw
  have lsc := Sc.lsv
  obtain ⟨hbc, hcc⟩ := zh hb HC.out hBc
  have HCc : Hid (∀ i, i < ws.length -> wc.cell? ⟨b, off + i, none⟩ = some (.int .u64 (za ws i))) := hcc
  have hBcw : B <= wc.heap.size := Nat.le_trans hBw hBc.size
  have KPc : ∀ W, Below wc.heap.size wc W -> (W.cell? ⟨sv, 0, none⟩ = some (.slice (some ⟨b, off, none⟩) ws.length cw) /\ W.cell? ⟨sv, 1, none⟩ = some (.int .i64 smz) /\ W.cell? ⟨sv, 2, none⟩ = some (.int .i64 toh) /\ W.cell? ⟨sv, 3, none⟩ = some (.int .i64 top) /\ W.cell? ⟨sv, 4, none⟩ = some (.bool cyc) /\ W.cell? ⟨sv, 5, none⟩ = some (.int .i64 sn) /\ W.cell? ⟨sv, 6, none⟩ = some (.int .i64 old) /\ W.cell? ⟨sv, 7, none⟩ = some (.int .i64 cpz) /\ W.cell? ⟨sv, 8, none⟩ = some (.int .i64 sr) /\ W.cell? ⟨sv, 9, none⟩ = some (.slice ar rs.length cr)) := fun W hW => zfg (ze Sc.cells hW lsc)
  have b1c := (Below.refl wc.heap.size wc).drew
  clear KP KS HSt h1 hcc hS
  go_upto_region 5 with fail
  refine wp_region_held_drew (S := fun W => (W.cell? ⟨sv, 0, none⟩ = some (.slice (some ⟨b, off, none⟩) ws.length cw) /\ W.cell? ⟨sv, 1, none⟩ = some (.int .i64 smz) /\ W.cell? ⟨sv, 2, none⟩ = some (.int .i64 toh) /\ W.cell? ⟨sv, 3, none⟩ = some (.int .i64 top) /\ W.cell? ⟨sv, 4, none⟩ = some (.bool cyc) /\ W.cell? ⟨sv, 5, none⟩ = some (.int .i64 sn) /\ W.cell? ⟨sv, 6, none⟩ = some (.int .i64 old) /\ W.cell? ⟨sv, 7, none⟩ = some (.int .i64 cpz) /\ W.cell? ⟨sv, 8, none⟩ = some (.int .i64 sr) /\ W.cell? ⟨sv, 9, none⟩ = some (.slice ar rs.length cr))) (by kernel_rfl) (KPc _ b1c) (fun hHeld => ?_)
  refine wpAnyH_take (i := 0) (oi := { dst := some 52, op := _, type := _, pos := _, after := _, guard := _ }) (v := .pointer (some ⟨sv, 0, none⟩)) rfl (by kernel_rfl) (by kernel_rfl) (by kernel_rfl) (fun _ _ _ h => h) (Or.inl ⟨by kernel_rfl, ?_⟩) hHeld ?_
  · intro w hSw
    (try dsimp only at hSw)
    go_simp
  try simp only [Act.put, zyd, zye, zyf]
  refine wpAnyH_take (i := 1) (oi := { dst := some 53, op := _, type := _, pos := _, after := _, guard := _ }) (v := .pointer (some ⟨sv, 0, none⟩)) rfl (by kernel_rfl) (by kernel_rfl) (by kernel_rfl) (fun _ _ _ h => h) (Or.inl ⟨by kernel_rfl, ?_⟩) hHeld ?_
  · intro w hSw
    (try dsimp only at hSw)
    go_simp
  try simp only [Act.put, zyd, zye, zyf]
  refine wpAnyH_take (i := 2) (oi := { dst := some 54, op := _, type := _, pos := _, after := _, guard := _ }) (v := .pointer (some ⟨sv, 0, none⟩)) rfl (by kernel_rfl) (by kernel_rfl) (by kernel_rfl) (fun _ _ _ h => h) (Or.inl ⟨by kernel_rfl, ?_⟩) hHeld ?_
  · intro w hSw
    (try dsimp only at hSw)
    go_simp
  try simp only [Act.put, zyd, zye, zyf]
  refine wpAnyH_take (i := 3) (oi := { dst := some 55, op := _, type := _, pos := _, after := _, guard := _ }) (v := (.agg #[.slice (some ⟨b, off, none⟩) ws.length cw, .int .i64 smz, .int .i64 toh, .int .i64 top, .bool cyc, .int .i64 sn, .int .i64 old, .int .i64 cpz, .int .i64 sr, .slice ar rs.length cr])) rfl (by kernel_rfl) (by kernel_rfl) (by kernel_rfl) (fun _ _ _ h => h) (Or.inl ⟨by kernel_rfl, ?_⟩) hHeld ?_
  · intro w hSw
    (try dsimp only at hSw)
    go_simp
  try simp only [Act.put, zyd, zye, zyf]
  refine wpAnyH_take (i := 4) (oi := { dst := some 56, op := _, type := _, pos := _, after := _, guard := _ }) (v := .pointer (some ⟨sv, 0, none⟩)) rfl (by kernel_rfl) (by kernel_rfl) (by kernel_rfl) (fun _ _ _ h => h) (Or.inl ⟨by kernel_rfl, ?_⟩) hHeld ?_
  · intro w hSw
    (try dsimp only at hSw)
    go_simp
  try simp only [Act.put, zyd, zye, zyf]
  refine wpAnyH_take (i := 5) (oi := { dst := some 57, op := _, type := _, pos := _, after := _, guard := _ }) (v := .pointer (some ⟨sv, 0, none⟩)) rfl (by kernel_rfl) (by kernel_rfl) (by kernel_rfl) (fun _ _ _ h => h) (Or.inl ⟨by kernel_rfl, ?_⟩) hHeld ?_
  · intro w hSw
    (try dsimp only at hSw)
    go_simp
  try simp only [Act.put, zyd, zye, zyf]
  refine wpAnyH_take (i := 6) (oi := { dst := some 58, op := _, type := _, pos := _, after := _, guard := _ }) (v := .pointer (some ⟨sv, 0, none⟩)) rfl (by kernel_rfl) (by kernel_rfl) (by kernel_rfl) (fun _ _ _ h => h) (Or.inl ⟨by kernel_rfl, ?_⟩) hHeld ?_
  · intro w hSw
    (try dsimp only at hSw)
    go_simp
  try simp only [Act.put, zyd, zye, zyf]
  refine wpAnyH_take (i := 7) (oi := { dst := some 59, op := _, type := _, pos := _, after := _, guard := _ }) (v := (.agg #[.slice (some ⟨b, off, none⟩) ws.length cw, .int .i64 smz, .int .i64 toh, .int .i64 top, .bool cyc, .int .i64 sn, .int .i64 old, .int .i64 cpz, .int .i64 sr, .slice ar rs.length cr])) rfl (by kernel_rfl) (by kernel_rfl) (by kernel_rfl) (fun _ _ _ h => h) (Or.inl ⟨by kernel_rfl, ?_⟩) hHeld ?_
  · intro w hSw
    (try dsimp only at hSw)
    go_simp
  try simp only [Act.put, zyd, zye, zyf]
  refine wpAnyH_take (i := 9) (oi := { dst := some 61, op := _, type := _, pos := _, after := _, guard := _ }) (v := .pointer (some ⟨sv, 0, none⟩)) rfl (by kernel_rfl) (by kernel_rfl) (by kernel_rfl) (fun _ _ _ h => h) (Or.inl ⟨by kernel_rfl, ?_⟩) hHeld ?_
  · intro w hSw
    (try dsimp only at hSw)
    go_simp
  try simp only [Act.put, zyd, zye, zyf]
  refine wpAnyH_take (i := 10) (oi := { dst := some 62, op := _, type := _, pos := _, after := _, guard := _ }) (v := .pointer (some ⟨sv, 0, none⟩)) rfl (by kernel_rfl) (by kernel_rfl) (by kernel_rfl) (fun _ _ _ h => h) (Or.inl ⟨by kernel_rfl, ?_⟩) hHeld ?_
  · intro w hSw
    (try dsimp only at hSw)
    go_simp
  try simp only [Act.put, zyd, zye, zyf]
  refine wpAnyH_take (i := 11) (oi := { dst := some 63, op := _, type := _, pos := _, after := _, guard := _ }) (v := .pointer (some ⟨sv, 0, none⟩)) rfl (by kernel_rfl) (by kernel_rfl) (by kernel_rfl) (fun _ _ _ h => h) (Or.inl ⟨by kernel_rfl, ?_⟩) hHeld ?_
  · intro w hSw
    (try dsimp only at hSw)
    go_simp
  try simp only [Act.put, zyd, zye, zyf]
  refine wpAnyH_take (i := 12) (oi := { dst := some 64, op := _, type := _, pos := _, after := _, guard := _ }) (v := .pointer (some ⟨sv, 6, none⟩)) rfl (by kernel_rfl) (by kernel_rfl) (by kernel_rfl) (fun _ _ _ h => h) (Or.inl ⟨by kernel_rfl, ?_⟩) hHeld ?_
  · intro w hSw
    (try dsimp only at hSw)
    go_simp
  try simp only [Act.put, zyd, zye, zyf]
  refine wpAnyH_take (i := 13) (oi := { dst := some 65, op := _, type := _, pos := _, after := _, guard := _ }) (v := .int .i64 old) rfl (by kernel_rfl) (by kernel_rfl) (by kernel_rfl) (fun _ _ _ h => h) (Or.inl ⟨by kernel_rfl, ?_⟩) hHeld ?_
  · intro w hSw
    (try dsimp only at hSw)
    go_simp
  try simp only [Act.put, zyd, zye, zyf]
  refine wpAnyH_ready (rs := [8]) (by kernel_rfl) (by simp) ?_
  refine AllReadyH.cons (o := { dst := some 60, op := _, type := _, pos := _, after := _, guard := _ }) rfl (fun K hK => ?_) AllReadyH.nil
  go_simp
  go_at_call 109
  refine (zf4 _ _ _ _ _ _ _ _ _ _ _ _ _ _ _ t0 t1).mono ?_
  rintro e wo ⟨rfl, hb⟩
  have hBo := zc (w := wc) b1c hb
  clear hb
  clear hHeld
  refine hK.out _ _ (KPc _ hBo) (fun hHeld => ?_)
  clear hK K
  try simp only [Act.put, zyd, zye, zyf]
  refine wpAnyH_ready (rs := [14]) (by kernel_rfl) (by simp) ?_
  refine AllReadyH.cons (o := { dst := some 66, op := _, type := _, pos := _, after := _, guard := _ }) rfl (fun K hK => ?_) AllReadyH.nil
  go_simp
  go_at_call 113
  refine (zdl _ _ _ _ _ _ _ _ _ _ _ _ _ _ (1 - toh) old (F : Int) E2 _ u0 u1 s0 s1 HF2.out HE2.out).mono ?_
  rw [HIN.out]
  rintro e wl ⟨rfl, hb⟩
  have hBl := zc (w := wc) hBo hb
  clear hb
  clear hHeld
  refine hK.out _ _ (KPc _ hBl) (fun hHeld => ?_)
  clear hK K
  try simp only [Act.put, zyd, zye, zyf]
  refine wpAnyH_take (i := 15) (oi := { dst := some 67, op := _, type := _, pos := _, after := _, guard := _ }) (v := .bool true) rfl (by kernel_rfl) (by kernel_rfl) (by kernel_rfl) (fun _ _ _ h => h) (Or.inl ⟨by kernel_rfl, ?_⟩) hHeld ?_
  · intro w hSw
    (try dsimp only at hSw)
    go_simp
  try simp only [Act.put, zyd, zye, zyf]
  refine wpAnyH_take (i := 16) (oi := { dst := some 68, op := _, type := _, pos := _, after := _, guard := _ }) (v := .pointer (some ⟨sv, 0, none⟩)) rfl (by kernel_rfl) (by kernel_rfl) (by kernel_rfl) (fun _ _ _ h => h) (Or.inl ⟨by kernel_rfl, ?_⟩) hHeld ?_
  · intro w hSw
    (try dsimp only at hSw)
    go_simp
  try simp only [Act.put, zyd, zye, zyf]
  refine wpAnyH_ready (rs := [17]) (by kernel_rfl) (by simp) ?_
  refine AllReadyH.cons (o := { dst := some 69, op := _, type := _, pos := _, after := _, guard := _ }) rfl (fun K hK => ?_) AllReadyH.nil
  go_simp
  go_at_call 166
  refine (zhy b off cw ws smz toh top cyc sn old cpz sr ar cr rs B Bp sv bl cl bs bc vp S T F Od L _ (Sc.below hBl) (zh hbc HCc.out hBl).1 hbB (zh hbc HCc.out hBl).2 hn hw t0 t1 s0 s1 HSe.out HT.out HF2.out HOd.out hS1 hTn hFO hOn hap HL.out HLN.out).mono ?_
  rintro e wt ⟨q, rfl, hq, b5, f5, s5⟩
  obtain rfl : q = false := (by cases q with | false => rfl | true => exact absurd (hq.1 rfl) hG)
  clear hq
  obtain ⟨vt, _, _, _, _, _, _, St⟩ := f5 rfl
  clear f5 s5
  have KPt : ∀ W, W = wt -> (W.cell? ⟨sv, 0, none⟩ = some (.slice (some ⟨b, off, none⟩) ws.length cw) /\ W.cell? ⟨sv, 1, none⟩ = some (.int .i64 smz) /\ W.cell? ⟨sv, 2, none⟩ = some (.int .i64 toh) /\ W.cell? ⟨sv, 3, none⟩ = some (.int .i64 top) /\ W.cell? ⟨sv, 4, none⟩ = some (.bool cyc) /\ W.cell? ⟨sv, 5, none⟩ = some (.int .i64 sn) /\ W.cell? ⟨sv, 6, none⟩ = some (.int .i64 old) /\ W.cell? ⟨sv, 7, none⟩ = some (.int .i64 cpz) /\ W.cell? ⟨sv, 8, none⟩ = some (.int .i64 sr) /\ W.cell? ⟨sv, 9, none⟩ = some (.slice ar rs.length cr)) := fun W hW => (by subst hW; exact zfg St.cells)
  have hBt : Below B w wt := (Bc.trans (zat hBl hBcw)).trans b5
  clear hHeld
  refine hK.out _ _ (KPt _ rfl) (fun hHeld => ?_)
  clear hK K
  try simp only [Act.put, zyd, zye, zyf]
  refine wpAnyH_take (i := 18) (oi := { dst := some 70, op := _, type := _, pos := _, after := _, guard := _ }) (v := .bool false) rfl (by kernel_rfl) (by kernel_rfl) (by kernel_rfl) (fun _ _ _ h => h) (Or.inl ⟨by kernel_rfl, ?_⟩) hHeld ?_
  · intro w hSw
    (try dsimp only at hSw)
    go_simp
  try simp only [Act.put, zyd, zye, zyf]
  refine wpAnyH_take (i := 19) (oi := { dst := some 71, op := _, type := _, pos := _, after := _, guard := _ }) (v := .bool false) rfl (by kernel_rfl) (by kernel_rfl) (by kernel_rfl) (fun _ _ _ h => h) (Or.inl ⟨by kernel_rfl, ?_⟩) hHeld ?_
  · intro w hSw
    (try dsimp only at hSw)
    go_simp
  try simp only [Act.put, zyd, zye, zyf]
  refine wpAnyH_take (i := 20) (oi := { dst := some 72, op := _, type := _, pos := _, after := _, guard := _ }) (v := undef) rfl (by kernel_rfl) (by kernel_rfl) (by kernel_rfl) (fun _ _ _ h => h) (Or.inr ⟨by kernel_rfl, rfl⟩) hHeld ?_
  try simp only [Act.put, zyd, zye, zyf]
  refine wpAnyH_take (i := 21) (oi := { dst := some 73, op := _, type := _, pos := _, after := _, guard := _ }) (v := undef) rfl (by kernel_rfl) (by kernel_rfl) (by kernel_rfl) (fun _ _ _ h => h) (Or.inr ⟨by kernel_rfl, rfl⟩) hHeld ?_
  try simp only [Act.put, zyd, zye, zyf]
  refine wpAnyH_take (i := 22) (oi := { dst := some 74, op := _, type := _, pos := _, after := _, guard := _ }) (v := undef) rfl (by kernel_rfl) (by kernel_rfl) (by kernel_rfl) (fun _ _ _ h => h) (Or.inr ⟨by kernel_rfl, rfl⟩) hHeld ?_
  try simp only [Act.put, zyd, zye, zyf]
  refine wpAnyH_take (i := 23) (oi := { dst := some 75, op := _, type := _, pos := _, after := _, guard := _ }) (v := undef) rfl (by kernel_rfl) (by kernel_rfl) (by kernel_rfl) (fun _ _ _ h => h) (Or.inr ⟨by kernel_rfl, rfl⟩) hHeld ?_
  try simp only [Act.put, zyd, zye, zyf]
  refine wpAnyH_take (i := 24) (oi := { dst := some 76, op := _, type := _, pos := _, after := _, guard := _ }) (v := undef) rfl (by kernel_rfl) (by kernel_rfl) (by kernel_rfl) (fun _ _ _ h => h) (Or.inr ⟨by kernel_rfl, rfl⟩) hHeld ?_
  try simp only [Act.put, zyd, zye, zyf]
  refine wpAnyH_take (i := 25) (oi := { dst := some 77, op := _, type := _, pos := _, after := _, guard := _ }) (v := undef) rfl (by kernel_rfl) (by kernel_rfl) (by kernel_rfl) (fun _ _ _ h => h) (Or.inr ⟨by kernel_rfl, rfl⟩) hHeld ?_
  try simp only [Act.put, zyd, zye, zyf]
  refine wpAnyH_take (i := 26) (oi := { dst := some 78, op := _, type := _, pos := _, after := _, guard := _ }) (v := .bool false) rfl (by kernel_rfl) (by kernel_rfl) (by kernel_rfl) (fun _ _ _ h => h) (Or.inl ⟨by kernel_rfl, ?_⟩) hHeld ?_
  · intro w hSw
    (try dsimp only at hSw)
    go_simp
  try simp only [Act.put, zyd, zye, zyf]
  refine wpAnyH_take (i := 27) (oi := { dst := some 2, op := _, type := _, pos := _, after := _, guard := _ }) (v := .bool false) rfl (by kernel_rfl) (by kernel_rfl) (by kernel_rfl) (fun _ _ _ h => h) (Or.inl ⟨by kernel_rfl, ?_⟩) hHeld ?_
  · intro w hSw
    (try dsimp only at hSw)
    go_simp
  try simp only [Act.put, zyd, zye, zyf]
  refine wpAnyH_done (by kernel_rfl) ?_ _
  go_wp2
  go_ret
  exact ⟨rfl, hBt⟩
set_option maxHeartbeats 8000000 in
theorem zm6 (b off cw : Nat) (ws : List Int) (smz toh top : Int) (cyc : Bool) (sn old cpz sr : Int) (ar : Option Addr) (cr : Nat) (rs : List (Int × Int)) (B Bp sv bl cl bs bc : Nat) (vp : Value) (S T F Od : Nat) (E2 : Int) (L : List Nat) (w : World) (hS : zad B Bp w sv bl bs bc ws.length #[.slice (some ⟨b, off, none⟩) ws.length cw, .int .i64 smz, .int .i64 toh, .int .i64 top, .bool cyc, .int .i64 sn, .int .i64 old, .int .i64 cpz, .int .i64 sr, .slice ar rs.length cr, .slice (some ⟨bl, 0, none⟩) ws.length cl, vp, .map (some bs), .map (some bc)] vp (zm ws L []) (L ++ zl ws []) L.length 0 (za4 ws (L ++ zl ws [])) (zbn ws [])) (hb : b < w.heap.size) (hbB : b < B) (hc : ∀ i, i < ws.length -> w.cell? ⟨b, off + i, none⟩ = some (.int .u64 (za ws i))) (hn : ws.length <= 8000) (hw : zg ws) (hcy : cyc = true) (t0 : 0 <= toh) (t1 : toh <= 1) (s0 : 256 <= smz) (s1 : smz <= 4000) (hSe : toh * smz + 1 = S) (hT : top = T) (hF : (1 - toh) * smz + 1 = F) (hE2 : (1 - toh + 1) * smz = E2) (hOd : old = Od) (hS1 : 1 <= S) (hTn : T <= ws.length) (hFO : F <= Od) (hOn : Od <= ws.length) (hap : T <= F \/ Od <= S) (hL : zn (nx1 ws sr) S T L) (hLn : (zag ws L).Nodup) (h1 : (sn != top) = false \/ (sn != top) = true /\ zb0 (S : Int) top (zm ws L []) sn = true) (h3 : inB old (F : Int) E2 = true) (E : Int) (hE : (toh + 1) * smz = E) (p1 : top <= 8000) (p0 : 0 <= top) (hG : zeb ws sr L F Od cpz) :
 Calls Tryz.prog 133 #[.pointer (some ⟨sv, 0, none⟩)] w fun e w' => e = .returned (.bool (decide (old - F - cpz <= E - top))) /\ Below B w w' /\ ∃ O vp', zn (nx2 ws sr L) F Od O /\ (tgs ws O).Nodup /\ (zag ws (L ++ zl ws O)).Nodup /\ (zak ws O : Int) = cpz /\ zad B Bp w' sv bl bs bc ws.length ((fun vp => #[.slice (some ⟨b, off, none⟩) ws.length cw, .int .i64 smz, .int .i64 toh, .int .i64 top, .bool cyc, .int .i64 sn, .int .i64 old, .int .i64 cpz, .int .i64 sr, .slice ar rs.length cr, .slice (some ⟨bl, 0, none⟩) ws.length cl, vp, .map (some bs), .map (some bc)]) vp') vp' (zm ws L O) (L ++ zl ws O) (L.length + O.length) O.length (za4 ws (L ++ zl ws O)) (zbn ws O) := by
 have hcop : 0 <= cpz /\ cpz <= 8000 := by
  obtain ⟨O, g1, _, _, g4⟩ := hG
  have := zfd g1
  omega
 have ho8 : 0 <= old /\ old <= 8000 := by omega
 have HFr : ∀ W, Calls Tryz.prog 167 #[(.agg #[.slice (some ⟨b, off, none⟩) ws.length cw, .int .i64 smz, .int .i64 toh, .int .i64 top, .bool cyc, .int .i64 sn, .int .i64 old, .int .i64 cpz, .int .i64 sr, .slice ar rs.length cr])] W fun e w' => e = .returned (.int .i64 (E - top - (old - F - cpz))) /\ Below W.heap.size W w' := fun W => by
  subst hcy
  exact zp2 _ _ _ _ _ _ _ _ _ _ _ _ _ (F : Int) E W t0 t1 s0 s1 hF hE p0 p1 ho8.1 ho8.2 hcop.1 hcop.2
 have HFt : ∀ W, Calls Tryz.prog 167 #[.agg #[.slice (some ⟨b, off, none⟩) ws.length cw, .int .i64 smz, .int .i64 toh, .int .i64 top, .bool true, .int .i64 sn, .int .i64 old, .int .i64 cpz, .int .i64 sr, .slice ar rs.length cr]] W fun e w' => e = .returned (.int .i64 (E - top - (old - F - cpz))) /\ Below W.heap.size W w' := fun W => zp2 _ _ _ _ _ _ _ _ _ _ _ _ _ (F : Int) E W t0 t1 s0 s1 hF hE p0 p1 ho8.1 ho8.2 hcop.1 hcop.2
 have HSe : Hid (toh * smz + 1 = (S : Int)) := hSe
 have HF2 : Hid ((1 - toh) * smz + 1 = (F : Int)) := hF
 have HE2 : Hid ((1 - toh + 1) * smz = E2) := hE2
 have HT : Hid (top = (T : Int)) := hT
 have HOd : Hid (old = (Od : Int)) := hOd
 have HL : Hid (zn (nx1 ws sr) S T L) := hL
 have HLN : Hid ((zag ws L).Nodup) := hLn
 have HIN : Hid (inB old (F : Int) E2 = true) := h3
 have hTl : top <= ws.length := by omega
 have hn' : ws.length <= 1048576 := by omega
 have u0 : 0 <= 1 - toh := by omega
 have u1 : 1 - toh <= 1 := by omega
 have hBw : B <= w.heap.size := by have := hS.ge; have := hS.lt; have := hS.size; omega
 have HC : Hid (∀ i, i < ws.length -> w.cell? ⟨b, off + i, none⟩ = some (.int .u64 (za ws i))) := hc
 have KS := hS.cells
 have lsv := hS.lsv
 have KP : ∀ W, Below w.heap.size w W -> (Below w.heap.size w W /\ (∀ i, W.cell? ⟨sv, i, none⟩ = (#[.slice (some ⟨b, off, none⟩) ws.length cw, .int .i64 smz, .int .i64 toh, .int .i64 top, .bool cyc, .int .i64 sn, .int .i64 old, .int .i64 cpz, .int .i64 sr, .slice ar rs.length cr, .slice (some ⟨bl, 0, none⟩) ws.length cl, vp, .map (some bs), .map (some bc)] : Array Value)[i]?)) := fun W hW => ⟨hW, ze KS hW lsv⟩
 have HSt : zb0 (S : Int) top (zm ws L []) sn = true -> ∀ W, Below w.heap.size w W -> Calls Tryz.prog 165 #[.pointer (some ⟨sv, 0, none⟩), .int .i64 sn] W fun e w' => e = .returned (.bool true) /\ Below W.heap.size W w' := fun hst W hW => by
  rw [<- hst]
  have SW := hS.below hW
  exact zcw b off cw ws smz toh top cyc sn old cpz sr ar cr rs sv bl cl bs bc vp (zm ws L []) sn (S : Int) W SW.lsv SW.cells SW.lbl SW.leads (zh hb HC.out hW).1 (zh hb HC.out hW).2 hn' hw t0 t1 s0 s1 HSe.out hTl
 clear hSe hF hE2 hT hOd hL hLn h3 hc
 go_enter Tryz.func133, Tryz.ntmps133
 go_upto_region 3 with fail
 go_cut [51] from 31 to 50 (fun s51 wc => s51 = .bool false /\ Below w.heap.size w wc)
 case first =>
  rcases h1 with h1 | ⟨h1, h2⟩
  · go_quiet (fail)
    go_wp2_with fail
    go_meet
    exact ⟨rfl, below_drewN (Below.refl _ _) _⟩
  · have hst := HSt h2
    have b1' := (Below.refl w.heap.size w).drew
    clear HSt
    go_region_held3 (fun W => Below w.heap.size w W /\ (∀ i, W.cell? ⟨sv, i, none⟩ = (#[.slice (some ⟨b, off, none⟩) ws.length cw, .int .i64 smz, .int .i64 toh, .int .i64 top, .bool cyc, .int .i64 sn, .int .i64 old, .int .i64 cpz, .int .i64 sr, .slice ar rs.length cr, .slice (some ⟨bl, 0, none⟩) ws.length cl, vp, .map (some bs), .map (some bc)] : Array Value)[i]?)) (first | exact KP _ (by assumption) | exact KP _ b1') (first | (go_at_call 165; refine (hst _ (And.left (by assumption))).mono ?_; rintro e w' ⟨rfl, hb⟩; have hB3 := zc (w := w) (And.left (by assumption)) hb; clear hb))
    all_goals (go_wp2_with fail; go_meet; exact ⟨rfl, by assumption⟩)
 case rest =>
  obtain ⟨rfl, hBc⟩ := hcut
  have Sc := hS.below hBc
  have Bc : Below B w wc := zat hBc hBw
  have lsc := Sc.lsv
  obtain ⟨hbc, hcc⟩ := zh hb HC.out hBc
  have HCc : Hid (∀ i, i < ws.length -> wc.cell? ⟨b, off + i, none⟩ = some (.int .u64 (za ws i))) := hcc
  have hBcw : B <= wc.heap.size := Nat.le_trans hBw hBc.size
  have KPc : ∀ W, Below wc.heap.size wc W -> (W.cell? ⟨sv, 0, none⟩ = some (.slice (some ⟨b, off, none⟩) ws.length cw) /\ W.cell? ⟨sv, 1, none⟩ = some (.int .i64 smz) /\ W.cell? ⟨sv, 2, none⟩ = some (.int .i64 toh) /\ W.cell? ⟨sv, 3, none⟩ = some (.int .i64 top) /\ W.cell? ⟨sv, 4, none⟩ = some (.bool cyc) /\ W.cell? ⟨sv, 5, none⟩ = some (.int .i64 sn) /\ W.cell? ⟨sv, 6, none⟩ = some (.int .i64 old) /\ W.cell? ⟨sv, 7, none⟩ = some (.int .i64 cpz) /\ W.cell? ⟨sv, 8, none⟩ = some (.int .i64 sr) /\ W.cell? ⟨sv, 9, none⟩ = some (.slice ar rs.length cr)) := fun W hW => zfg (ze Sc.cells hW lsc)
  have b1c := (Below.refl wc.heap.size wc).drew
  clear KP KS HSt h1 hcc hS
  go_upto_region 5 with fail
  first
   | (go_region_held3 (fun W => (W.cell? ⟨sv, 0, none⟩ = some (.slice (some ⟨b, off, none⟩) ws.length cw) /\ W.cell? ⟨sv, 1, none⟩ = some (.int .i64 smz) /\ W.cell? ⟨sv, 2, none⟩ = some (.int .i64 toh) /\ W.cell? ⟨sv, 3, none⟩ = some (.int .i64 top) /\ W.cell? ⟨sv, 4, none⟩ = some (.bool cyc) /\ W.cell? ⟨sv, 5, none⟩ = some (.int .i64 sn) /\ W.cell? ⟨sv, 6, none⟩ = some (.int .i64 old) /\ W.cell? ⟨sv, 7, none⟩ = some (.int .i64 cpz) /\ W.cell? ⟨sv, 8, none⟩ = some (.int .i64 sr) /\ W.cell? ⟨sv, 9, none⟩ = some (.slice ar rs.length cr))) (first | assumption | exact KPc _ b1c | exact KPc _ hBl | exact KPc _ hBo | exact KPt _ rfl | exact KPf _ rfl) (first | (go_at_call 109; refine (zf4 _ _ _ _ _ _ _ _ _ _ _ _ _ _ _ t0 t1).mono ?_; rintro e wo ⟨rfl, hb⟩; have hBo : Below wc.heap.size wc wo := (by first | exact zc b1c hb | exact zc (by assumption) hb); clear hb) | (go_at_call 113; refine (zdl _ _ _ _ _ _ _ _ _ _ _ _ _ _ (1 - toh) old (F : Int) E2 _ u0 u1 s0 s1 HF2.out HE2.out).mono ?_; rw [HIN.out]; rintro e wl ⟨rfl, hb⟩; have hBl : Below wc.heap.size wc wl := (by first | exact zc hBo hb | exact zc b1c hb); clear hb) | (go_at_call 166; refine (zhy b off cw ws smz toh top cyc sn old cpz sr ar cr rs B Bp sv bl cl bs bc vp S T F Od L _ (Sc.below hBl) (zh hbc HCc.out hBl).1 hbB (zh hbc HCc.out hBl).2 hn hw t0 t1 s0 s1 HSe.out HT.out HF2.out HOd.out hS1 hTn hFO hOn hap HL.out HLN.out).mono ?_; rintro e wt ⟨q, rfl, hq, b5, f5, s5⟩; obtain rfl : q = true := hq.2 hG; clear hq; obtain ⟨Ot, vt, g1, g2, g3, g4, St⟩ := s5 rfl; clear f5 s5; have KPt : ∀ W, W = wt -> (W.cell? ⟨sv, 0, none⟩ = some (.slice (some ⟨b, off, none⟩) ws.length cw) /\ W.cell? ⟨sv, 1, none⟩ = some (.int .i64 smz) /\ W.cell? ⟨sv, 2, none⟩ = some (.int .i64 toh) /\ W.cell? ⟨sv, 3, none⟩ = some (.int .i64 top) /\ W.cell? ⟨sv, 4, none⟩ = some (.bool cyc) /\ W.cell? ⟨sv, 5, none⟩ = some (.int .i64 sn) /\ W.cell? ⟨sv, 6, none⟩ = some (.int .i64 old) /\ W.cell? ⟨sv, 7, none⟩ = some (.int .i64 cpz) /\ W.cell? ⟨sv, 8, none⟩ = some (.int .i64 sr) /\ W.cell? ⟨sv, 9, none⟩ = some (.slice ar rs.length cr)) := fun W hW => (by subst hW; exact zfg St.cells); have hBt : Below B w wt := (Bc.trans (zat hBl hBcw)).trans b5) | (go_at_call 167; refine (HFt _).mono ?_; rintro e wf ⟨rfl, b6⟩; have Sf := St.below b6; have KPf : ∀ W, W = wf -> (W.cell? ⟨sv, 0, none⟩ = some (.slice (some ⟨b, off, none⟩) ws.length cw) /\ W.cell? ⟨sv, 1, none⟩ = some (.int .i64 smz) /\ W.cell? ⟨sv, 2, none⟩ = some (.int .i64 toh) /\ W.cell? ⟨sv, 3, none⟩ = some (.int .i64 top) /\ W.cell? ⟨sv, 4, none⟩ = some (.bool cyc) /\ W.cell? ⟨sv, 5, none⟩ = some (.int .i64 sn) /\ W.cell? ⟨sv, 6, none⟩ = some (.int .i64 old) /\ W.cell? ⟨sv, 7, none⟩ = some (.int .i64 cpz) /\ W.cell? ⟨sv, 8, none⟩ = some (.int .i64 sr) /\ W.cell? ⟨sv, 9, none⟩ = some (.slice ar rs.length cr)) := fun W hW => (by subst hW; exact zfg Sf.cells); have hBf : Below B w wf := hBt.trans (zat b6 (by have := St.size; have := St.lt; have := St.ge; omega)))))
   | fail
  all_goals
   go_wp2
   go_ret
   exact ⟨rfl, hBf, Ot, vt, g1, g2, g3, g4, Sf⟩
open Go.RowKit
def zbq (ws : List Int) (sr : Int) (S T : Nat) (cyc : Bool) (F : Nat) (smz toh top old cpz sn : Int) (L O : List Nat) : Prop :=
 za1 ws sr S T cyc F old cpz sn L O /\ (zag ws (L ++ zl ws O)).Nodup /\ (cyc = false -> zgm sn old cpz = true) /\ (cyc = true -> zfj smz toh top old cpz = true)
theorem ztm (ws : List Int) (L : List Nat) : zm ws L [] = zcf L := by funext i; simp [zm]
theorem zm4 (ws : List Int) (L : List Nat) : L ++ zl ws [] = L := by simp [zl]
theorem zu8 (ws : List Int) : zbn ws [] = fun _ => false := by funext z; simp [zbn, tgs]
set_option maxHeartbeats 1000000 in
theorem zej (b off cw : Nat) (ws : List Int) (smz toh top : Int) (cyc : Bool) (sn old cpz sr : Int) (ar : Option Addr) (cr : Nat) (rs : List (Int × Int)) (B Bp sv bl cl bs bc : Nat) (vp : Value) (S T F : Nat) (L : List Nat) (w : World) (hS : zad B Bp w sv bl bs bc ws.length #[.slice (some ⟨b, off, none⟩) ws.length cw, .int .i64 smz, .int .i64 toh, .int .i64 top, .bool cyc, .int .i64 sn, .int .i64 old, .int .i64 cpz, .int .i64 sr, .slice ar rs.length cr, .slice (some ⟨bl, 0, none⟩) ws.length cl, vp, .map (some bs), .map (some bc)] vp (zcf L) L L.length 0 (za4 ws L) (fun _ => false)) (hb : b < w.heap.size) (hbB : b < B) (hc : ∀ i, i < ws.length -> w.cell? ⟨b, off + i, none⟩ = some (.int .u64 (za ws i))) (hn : ws.length <= 8000) (hw : zg ws) (t0 : 0 <= toh) (t1 : toh <= 1) (s0 : 256 <= smz) (s1 : smz <= 4000) (hl2 : (ws.length : Int) = 2 * smz) (hSe : toh * smz + 1 = S) (hT : top = T) (hF : (1 - toh) * smz + 1 = F) (hTn : T <= ws.length) (hTE : top <= (toh + 1) * smz) (hST : S <= T) (hL : zn (nx1 ws sr) S T L) (hLn : (zag ws L).Nodup) :
 Calls Tryz.prog 133 #[.pointer (some ⟨sv, 0, none⟩)] w fun e w' => ∃ q, e = .returned (.bool q) /\ Below B w w' /\ (q = true -> ∃ O vp', zbq ws sr S T cyc F smz toh top old cpz sn L O /\ zad B Bp w' sv bl bs bc ws.length ((fun vp => #[.slice (some ⟨b, off, none⟩) ws.length cw, .int .i64 smz, .int .i64 toh, .int .i64 top, .bool cyc, .int .i64 sn, .int .i64 old, .int .i64 cpz, .int .i64 sr, .slice ar rs.length cr, .slice (some ⟨bl, 0, none⟩) ws.length cl, vp, .map (some bs), .map (some bc)]) vp') vp' (zm ws L O) (L ++ zl ws O) (L.length + O.length) O.length (za4 ws (L ++ zl ws O)) (zbn ws O)) /\ (q = false -> ¬ ∃ O, zbq ws sr S T cyc F smz toh top old cpz sn L O) := by
 have hge := hS.ge
 have hBw : B <= w.heap.size := by have := hS.lt; have := hS.size; omega
 have lB : ∀ {w'}, Below w.heap.size w w' -> Below B w w' := fun h => h.mono hBw
 have hS' : zad B Bp w sv bl bs bc ws.length #[.slice (some ⟨b, off, none⟩) ws.length cw, .int .i64 smz, .int .i64 toh, .int .i64 top, .bool cyc, .int .i64 sn, .int .i64 old, .int .i64 cpz, .int .i64 sr, .slice ar rs.length cr, .slice (some ⟨bl, 0, none⟩) ws.length cl, vp, .map (some bs), .map (some bc)] vp (zm ws L []) (L ++ zl ws []) L.length 0 (za4 ws (L ++ zl ws [])) (zbn ws []) := by
  rw [ztm, zm4, zu8]; exact hS
 cases hcy : cyc with
 | false =>
   subst hcy
   refine (zls b off cw ws smz toh top false sn old cpz sr ar cr rs sv bl cl bs bc vp (zcf L) w hS.lsv hS.cells rfl).mono ?_
   rintro e w' ⟨rfl, rfl⟩
   refine ⟨_, rfl, Below.refl _ _, fun h => ⟨[], vp, ⟨⟨hL, fun _ => rfl, fun g => by simp at g⟩, by rw [zm4]; exact hLn, fun _ => h, fun g => by simp at g⟩, ?_⟩, fun h => ?_⟩
   · simpa using hS'
   · rintro ⟨O, _, _, h4, _⟩
     have := h4 rfl
     rw [h] at this
     simp at this
 | true =>
   subst hcy
   have hS1 : 1 <= S := by have : 0 <= toh * smz := Int.mul_nonneg t0 (by omega); omega
   have hst : ∀ y : Int, 0 <= y -> (zb0 (S : Int) top (zm ws L []) y = true ↔ y.toNat ∈ L) := fun y hy => by rw [hT]; exact zhd hL hS1 (fun p hp => by simp at hp) hy
   have hE2 : (1 - toh + 1) * smz = (2 - toh) * smz := by rw [show (1 - toh + 1) = 2 - toh by omega]
   have hF0 : zci smz toh = (F : Int) := hF
   by_cases h1 : (sn != top) = false \/ (sn != top) = true /\ zb0 (S : Int) top (zm ws L []) sn = true
   · have hsc : sn = T \/ 0 <= sn /\ sn < ws.length /\ sn.toNat ∈ L := by
      rcases h1 with h | ⟨_, h⟩
      · exact .inl (by rw [<- hT]; simpa using h)
      · have hb1 : (S : Int) <= sn /\ sn < top := by
         unfold zb0 at h
         simp only [Bool.and_eq_true, decide_eq_true_eq] at h
         exact h.1
        exact .inr ⟨by omega, by omega, (hst sn (by omega)).1 h⟩
     cases h3 : inB old (F : Int) ((1 - toh + 1) * smz) with
     | false =>
       refine (zo4 b off cw ws smz toh top true sn old cpz sr ar cr rs sv bl cl bs bc vp (zm ws L []) (S : Int) (F : Int) _ w hS.lsv hS.cells hS'.lbl hS'.leads hb hc (by omega) hw rfl t0 t1 s0 s1 hSe hF rfl (by omega) h1 h3).mono ?_
       rintro e w' ⟨rfl, hB⟩
       refine ⟨false, rfl, lB hB, fun h => by simp at h, fun _ => ?_⟩
       rintro ⟨O, _, _, _, h5⟩
       have := of_decide_eq_true (h5 rfl)
       rw [hF0] at this
       have h3 := of_decide_eq_false h3
       rw [hE2] at h3
       exact h3 ⟨this.1, this.2.1⟩
     | true =>
       have hbd := of_decide_eq_true h3
       obtain ⟨Od, hOd⟩ := Int.eq_ofNat_of_zero_le (a := old) (by omega)
       have hcase : toh = 0 \/ toh = 1 := by omega
       have hnum : (F : Int) <= Od /\ (Od : Int) <= ws.length /\ (T <= F \/ Od <= S) := by
        rw [hE2] at hbd
        rcases hcase with rfl | rfl
        · simp at hbd hSe hF hTE
          omega
        · simp at hbd hSe hF hTE
          omega
       by_cases hG : zeb ws sr L F Od cpz
       · refine (zm6 b off cw ws smz toh top true sn old cpz sr ar cr rs B Bp sv bl cl bs bc vp S T F Od _ L w hS' hb hbB hc hn hw rfl t0 t1 s0 s1 hSe hT hF rfl hOd hS1 hTn (by omega) (by omega) hnum.2.2 hL hLn h1 h3 ((toh + 1) * smz) rfl (by omega) (by omega) hG).mono ?_
         rintro e w' ⟨rfl, hB, O, vp', k1, k2, k3, k4, k5⟩
         refine ⟨_, rfl, hB, fun h => ⟨O, vp', ⟨⟨hL, fun g => by simp at g, fun _ => ⟨by rw [hOd]; exact k1, k2, k4, hsc⟩⟩, k3, fun g => by simp at g, fun _ => ?_⟩, k5⟩, fun h => ?_⟩
         · have h := of_decide_eq_true h
           refine decide_eq_true ?_
           rw [hF0]
           have hle : zak ws O + F <= Od := zfd k1
           rw [hE2] at hbd
           exact ⟨hbd.1, hbd.2, by omega, by omega, by omega⟩
         · rintro ⟨O', _, _, _, h5⟩
           have := of_decide_eq_true (h5 rfl)
           rw [hF0] at this
           have h := of_decide_eq_false h
           omega
       · refine (zm5 b off cw ws smz toh top true sn old cpz sr ar cr rs B Bp sv bl cl bs bc vp S T F Od _ L w hS' hb hbB hc hn hw rfl t0 t1 s0 s1 hSe hT hF rfl hOd hS1 hTn (by omega) (by omega) hnum.2.2 hL hLn h1 h3 hG).mono ?_
         rintro e w' ⟨rfl, hB⟩
         refine ⟨false, rfl, hB, fun h => by simp at h, fun _ => ?_⟩
         rintro ⟨O, hO, h2, _, _⟩
         obtain ⟨g1, g2, g3, _⟩ := hO.runs rfl
         rw [hOd] at g1
         exact hG ⟨O, g1, g2, h2, g3⟩
   · have hne : (sn != top) = true := by
      cases h : (sn != top) with
      | true => rfl
      | false => exact absurd (.inl h) h1
     have hsb : zb0 (S : Int) top (zm ws L []) sn = false := by
      cases h : zb0 (S : Int) top (zm ws L []) sn with
      | false => rfl
      | true => exact absurd (.inr ⟨hne, h⟩) h1
     refine (zm7 b off cw ws smz toh top true sn old cpz sr ar cr rs sv bl cl bs bc vp (zm ws L []) (S : Int) w hS.lsv hS.cells hS'.lbl hS'.leads hb hc (by omega) hw rfl t0 t1 s0 s1 hSe (by omega) hne hsb).mono ?_
     rintro e w' ⟨rfl, hB⟩
     refine ⟨false, rfl, lB hB, fun h => by simp at h, fun _ => ?_⟩
     rintro ⟨O, hO, _, _, _⟩
     obtain ⟨_, _, _, g4⟩ := hO.runs rfl
     rcases g4 with g | ⟨g, _, g'⟩
     · rw [g, hT] at hne; simp at hne
     · rw [(hst sn g).2 g'] at hsb; simp at hsb
end Go.Proofs.YtmckcnmlhgpnhaaGreat
