/- - -/
import Derived.Test.YtglolopfeambfaaGreatWSvC
import Derived.Test.YtglolopfeambfaaGreatWOkA
namespace Go.Proofs.YtglolopfeambfaaGreat
set_option maxRecDepth 20000
open Go.RowKit Go.Maps
set_option linter.unusedSimpArgs false
set_option linter.unusedVariables false
def zbu (F top : Int) (lead : Nat -> Int) (x : Int) : Bool := decide (F <= x /\ x < top) && (lead x.toNat == x)
def zc4 (ws : List Int) (F top : Int) (lead : Nat -> Int) (hcop : Int -> Bool) (p : Nat) : Prop := zb6 (za ws p) = true /\ zbu F top lead (fwP (za ws p)) = true /\ hcop (fwP (za ws p)) = false
theorem zjr (x : Int) : 0 <= fwP x /\ fwP x <= 2147483647 := by
 unfold fwP
 split
 · rename_i h
   have := of_decide_eq_true h
   omega
 · omega
theorem zfw (x Y : Int) (w : World) (h0 : 0 <= x) (h1 : x < 18446744073709551616) (hY : fwP x = Y) :
 Calls Tryz.prog 94 #[.int .u64 x] w fun e w' => e = .returned (.tuple #[.int .i64 Y, .bool (zb6 x)]) /\ w = w' := by
 subst hY; exact (zc6 x w h0 h1).mono fun e w' g => ⟨g.1, g.2.symm⟩
set_option maxHeartbeats 2000000 in
theorem zss (b off cw : Nat) (ws : List Int) (smz toh top : Int) (cyc : Bool) (sn old cpz sr : Int) (ar : Option Addr) (cr : Nat) (rs : List (Int × Int)) (sv bl cl bs bc : Nat) (vp : Value) (lead : Nat -> Int) (x F : Int) (p : Nat) (w : World) (lsv : sv < w.heap.size) (KS : ∀ i, w.cell? ⟨sv, i, none⟩ = (#[.slice (some ⟨b, off, none⟩) ws.length cw, .int .i64 smz, .int .i64 toh, .int .i64 top, .bool cyc, .int .i64 sn, .int .i64 old, .int .i64 cpz, .int .i64 sr, .slice ar rs.length cr, .slice (some ⟨bl, 0, none⟩) ws.length cl, vp, .map (some bs), .map (some bc)] : Array Value)[i]?) (lbl : bl < w.heap.size) (hl : ∀ i, i < ws.length -> w.cell? ⟨bl, i, none⟩ = some (.int .i64 (lead i))) (hb : b < w.heap.size) (hc : ∀ i, i < ws.length -> w.cell? ⟨b, off + i, none⟩ = some (.int .u64 (za ws i))) (hn : ws.length <= 1048576) (hw : ze ws) (t0 : 0 <= toh) (t1 : toh <= 1) (s0 : 256 <= smz) (s1 : smz <= 4000) (hF : toh * smz + 1 = F) (hT : top <= ws.length) (hx : x = p) (hp : p < ws.length) (h : ¬ (zb6 (za ws p) = true /\ zbu F top lead (fwP (za ws p)) = true)) :
 Calls Tryz.prog 126 #[.pointer (some ⟨sv, 0, none⟩), .int .i64 x] w fun e w' => e = .returned (.bool false) /\ Below w.heap.size w w' := by
 have x0 : 0 <= x := by omega
 have x1 : x < (ws.length : Int) := by omega
 have x2 : x.toNat = p := by omega
 have hwp := zaa hw p
 have hcp := hc p hp
 have HF : Hid (toh * smz + 1 = F) := hF
 have HL : Hid (∀ i, i < ws.length -> w.cell? ⟨bl, i, none⟩ = some (.int .i64 (lead i))) := hl
 have HC : Hid (∀ i, i < ws.length -> w.cell? ⟨b, off + i, none⟩ = some (.int .u64 (za ws i))) := hc
 clear hx hl hc hF
 cases ho : zb6 (za ws p) with
 | false =>
   clear h
   go_enter Tryz.func126, Tryz.ntmps126
   go_wp2_with (go_at_call 94; refine (zc6 _ _ hwp.1 hwp.2).mono ?_; rw [ho]; rintro e w1 ⟨rfl, rfl⟩)
   go_ret
   exact ⟨rfl, Below.refl _ _⟩
 | true =>
   have hst : (decide (F <= fwP (za ws p) /\ fwP (za ws p) < top) && (lead (fwP (za ws p)).toNat == fwP (za ws p))) = false := by
    rw [<- Bool.not_eq_true]; exact fun g => h ⟨ho, g⟩
   clear h
   generalize hYe : fwP (za ws p) = Y at *
   have HY : Hid (fwP (za ws p) = Y) := hYe
   clear hYe
   go_enter Tryz.func126, Tryz.ntmps126
   go_wp2_with (first | (go_at_call 94; refine (zfw (za ws p) Y _ hwp.1 hwp.2 HY.out).mono ?_; rw [ho]; rintro e w1 ⟨rfl, rfl⟩) | (go_at_call 108; refine (zcs b off cw ws smz toh top cyc sn old cpz sr ar cr rs sv bl cl bs bc vp lead Y F _ lsv KS lbl HL.out hb HC.out hn hw t0 t1 s0 s1 HF.out hT).mono ?_; rw [hst]; rintro e w2 ⟨rfl, b2⟩))
   go_ret
   exact ⟨rfl, b2⟩
set_option maxHeartbeats 2000000 in
theorem zst (b off cw : Nat) (ws : List Int) (smz toh top : Int) (cyc : Bool) (sn old cpz sr : Int) (ar : Option Addr) (cr : Nat) (rs : List (Int × Int)) (B Bp sv bl cl bs bc : Nat) (vp : Value) (lead : Nat -> Int) (pl : List Nat) (ns nc : Nat) (hser hcop : Int -> Bool) (x F Y : Int) (p : Nat) (w : World) (hS : zab B Bp w sv bl bs bc ws.length #[.slice (some ⟨b, off, none⟩) ws.length cw, .int .i64 smz, .int .i64 toh, .int .i64 top, .bool cyc, .int .i64 sn, .int .i64 old, .int .i64 cpz, .int .i64 sr, .slice ar rs.length cr, .slice (some ⟨bl, 0, none⟩) ws.length cl, vp, .map (some bs), .map (some bc)] vp lead pl ns nc hser hcop) (hb : b < w.heap.size) (hbB : b < B) (hc : ∀ i, i < ws.length -> w.cell? ⟨b, off + i, none⟩ = some (.int .u64 (za ws i))) (hn : ws.length <= 1048576) (hw : ze ws) (hnc : nc <= 10000) (t0 : 0 <= toh) (t1 : toh <= 1) (s0 : 256 <= smz) (s1 : smz <= 4000) (hF : toh * smz + 1 = F) (hT : top <= ws.length) (hx : x = p) (hp : p < ws.length) (ho : zb6 (za ws p) = true) (hY : fwP (za ws p) = Y) (hst : (decide (F <= Y /\ Y < top) && (lead Y.toNat == Y)) = true) :
 Calls Tryz.prog 126 #[.pointer (some ⟨sv, 0, none⟩), .int .i64 x] w fun e w' => (hcop Y = true /\ e = .returned (.bool false) /\ Below w.heap.size w w') \/ (hcop Y = false /\ e = .returned (.bool true) /\ Below B w w' /\ zab B Bp w' sv bl bs bc ws.length #[.slice (some ⟨b, off, none⟩) ws.length cw, .int .i64 smz, .int .i64 toh, .int .i64 top, .bool cyc, .int .i64 sn, .int .i64 old, .int .i64 cpz, .int .i64 sr, .slice ar rs.length cr, .slice (some ⟨bl, 0, none⟩) ws.length cl, vp, .map (some bs), .map (some bc)] vp (fun i => if i = p then Y else lead i) pl ns (nc + 1) hser (fun z => decide (z = Y) || hcop z)) := by
 have x0 : 0 <= x := by omega
 have x1 : x < (ws.length : Int) := by omega
 have x2 : x.toNat = p := by omega
 have hwp := zaa hw p
 have hcp := hc p hp
 have hYb := zjr (za ws p)
 rw [hY] at hYb
 have HF : Hid (toh * smz + 1 = F) := hF
 have HY : Hid (fwP (za ws p) = Y) := hY
 have HC : Hid (∀ i, i < ws.length -> w.cell? ⟨b, off + i, none⟩ = some (.int .u64 (za ws i))) := hc
 have KS := hS.cells
 have lsv := hS.lsv
 have hge := hS.ge
 have hsz := hS.size
 have hslt := hS.lt
 have wfY : (Lit.int .i64 Y).wf = true := wfI (by omega) (by omega)
 have wfx : (Lit.int .i64 x).wf = true := wfI (by omega) (by omega)
 clear hx hc hF hY
 go_enter Tryz.func126, Tryz.ntmps126
 go_upto_region 4 with (first | (go_at_call 94; refine (zfw (za ws p) Y _ hwp.1 hwp.2 HY.out).mono ?_; rw [ho]; rintro e w1 ⟨rfl, rfl⟩) | (go_at_call 108; refine (zcs b off cw ws smz toh top cyc sn old cpz sr ar cr rs sv bl cl bs bc vp lead Y F _ lsv KS hS.lbl hS.leads hb HC.out hn hw t0 t1 s0 s1 HF.out hT).mono ?_; rw [hst]; rintro e w2 ⟨rfl, b2⟩))
 have S2 := hS.below b2
 have KS2 := S2.cells
 obtain ⟨c, hlk⟩ := S2.cop.look wfY
 clear KS hcp
 cases hd : hcop Y with
 | true =>
   rw [hd] at hlk
   go_wp2
   go_ret
   exact .inl ⟨hd, rfl, b2⟩
 | false =>
   rw [hd] at hlk
   obtain ⟨w3, hup, hm3, hg3⟩ := S2.cop.put (by omega) wfY wfx
   have S3 := S2.putCop hm3 hg3
   have KS3 := S3.cells
   have q3 : w3.cell? ⟨bl, p, none⟩ = some (.int .i64 (lead p)) := S3.leads p hp
   have f3 := S3.row.frozen p
   have B3 : Below B w w3 := (zaq b2 (by omega)).trans ((zij hg3).below (C := B) (by omega) (by have := b2.size; omega))
   go_wp2
   go_ret
   exact .inr ⟨hd, rfl, B3.setCell (p := ⟨bl, p, none⟩) (by show B <= bl; omega) _, S3.setLead p Y⟩
theorem zhp (b off cw : Nat) (ws : List Int) (smz toh top : Int) (cyc : Bool) (sn old cpz sr : Int) (ar : Option Addr) (cr : Nat) (rs : List (Int × Int)) (B Bp sv bl cl bs bc : Nat) (vp : Value) (lead : Nat -> Int) (pl : List Nat) (ns nc : Nat) (hser hcop : Int -> Bool) (x F : Int) (p : Nat) (w : World) (hS : zab B Bp w sv bl bs bc ws.length #[.slice (some ⟨b, off, none⟩) ws.length cw, .int .i64 smz, .int .i64 toh, .int .i64 top, .bool cyc, .int .i64 sn, .int .i64 old, .int .i64 cpz, .int .i64 sr, .slice ar rs.length cr, .slice (some ⟨bl, 0, none⟩) ws.length cl, vp, .map (some bs), .map (some bc)] vp lead pl ns nc hser hcop) (hb : b < w.heap.size) (hbB : b < B) (hc : ∀ i, i < ws.length -> w.cell? ⟨b, off + i, none⟩ = some (.int .u64 (za ws i))) (hn : ws.length <= 1048576) (hw : ze ws) (hnc : nc <= 10000) (t0 : 0 <= toh) (t1 : toh <= 1) (s0 : 256 <= smz) (s1 : smz <= 4000) (hF : toh * smz + 1 = F) (hT : top <= ws.length) (hx : x = p) (hp : p < ws.length) :
 Calls Tryz.prog 126 #[.pointer (some ⟨sv, 0, none⟩), .int .i64 x] w fun e w' => (¬ zc4 ws F top lead hcop p /\ e = .returned (.bool false) /\ Below w.heap.size w w') \/ (zc4 ws F top lead hcop p /\ e = .returned (.bool true) /\ Below B w w' /\ zab B Bp w' sv bl bs bc ws.length #[.slice (some ⟨b, off, none⟩) ws.length cw, .int .i64 smz, .int .i64 toh, .int .i64 top, .bool cyc, .int .i64 sn, .int .i64 old, .int .i64 cpz, .int .i64 sr, .slice ar rs.length cr, .slice (some ⟨bl, 0, none⟩) ws.length cl, vp, .map (some bs), .map (some bc)] vp (fun i => if i = p then fwP (za ws p) else lead i) pl ns (nc + 1) hser (fun z => decide (z = fwP (za ws p)) || hcop z)) := by
 by_cases h : zb6 (za ws p) = true /\ zbu F top lead (fwP (za ws p)) = true
 · refine (zst b off cw ws smz toh top cyc sn old cpz sr ar cr rs B Bp sv bl cl bs bc vp lead pl ns nc hser hcop x F _ p w hS hb hbB hc hn hw hnc t0 t1 s0 s1 hF hT hx hp h.1 rfl h.2).mono ?_
   rintro e w' (⟨hd, r⟩ | ⟨hd, r⟩)
   · exact .inl ⟨fun g => by have := g.2.2; rw [hd] at this; simp at this, r⟩
   · exact .inr ⟨⟨h.1, h.2, hd⟩, r⟩
 · refine (zss b off cw ws smz toh top cyc sn old cpz sr ar cr rs sv bl cl bs bc vp lead x F p w hS.lsv hS.cells hS.lbl hS.leads hb hc hn hw t0 t1 s0 s1 hF hT hx hp h).mono ?_
   rintro e w' r
   exact .inl ⟨fun g => h ⟨g.1, g.2.1⟩, r⟩
def zae (ws : List Int) (L : List Nat) : List Int := (L.map fun p => rdN (za ws p)).filter (fun z => decide (z ≠ 0))
def za1 (ws : List Int) (L : List Nat) (z : Int) : Bool := decide (z ∈ zae ws L)
def zcb (L : List Nat) (i : Nat) : Int := if i ∈ L then (i : Int) else 0
theorem zfi (ws : List Int) (L : List Nat) (p : Nat) : zae ws (L ++ [p]) = zae ws L ++ (if rdN (za ws p) = 0 then [] else [rdN (za ws p)]) := by
 by_cases h : rdN (za ws p) = 0 <;> simp [zae, h]
theorem zep (ws : List Int) (L M : List Nat) : zae ws (L ++ M) = zae ws L ++ zae ws M := by simp [zae]
theorem zk2 (ws : List Int) (L : List Nat) (p : Nat) : zfx ws (za1 ws L) p = za1 ws (L ++ [p]) := by
 funext z
 unfold zfx za1
 rw [zfi]
 by_cases h : rdN (za ws p) = 0
 · simp [h]
 · simp [h, Bool.or_comm]
theorem zqz (L : List Nat) (p : Nat) : (fun i => if i = p then (p : Int) else zcb L i) = zcb (L ++ [p]) := by
 funext i
 unfold zcb
 by_cases h : i = p
 · subst h; simp
 · simp [h]
theorem zm.len {nx : Nat -> Option Nat} {p q : Nat} {L : List Nat} (h : zm nx p q L) : p + L.length <= q := by
 refine zm.ind (motive := fun p L => p + L.length <= q) (by simp) (fun h t ih => ?_) h
 simp
 omega
def zdb (ws : List Int) (sr : Int) (S T : Nat) : Prop := ∃ L, zm (nx1 ws sr) S T L /\ (zae ws L).Nodup
def zdm (ws : List Int) (sr : Int) (P T : Nat) (L : List Nat) : Prop := ∃ M, zm (nx1 ws sr) P T M /\ (zae ws (L ++ M)).Nodup
theorem zmu (ws : List Int) (sr : Int) (T : Nat) (L : List Nat) (h : (zae ws L).Nodup) : zdm ws sr T T L := ⟨[], .nil _, by simpa using h⟩
theorem zlf {ws : List Int} {sr : Int} {P T : Nat} {L : List Nat} (h : T < P) : ¬ zdm ws sr P T L := fun ⟨M, hM, _⟩ => by have := hM.le; omega
theorem zi6 {ws : List Int} {sr : Int} {L : List Nat} {P : Nat} (h : zcf ws sr (za1 ws L) P) : nx1 ws sr P = some (rdS (za ws P)).toNat := by
 unfold nx1
 rw [if_pos ⟨h.1, h.2.1⟩]
theorem zii {ws : List Int} {sr : Int} {L : List Nat} {P : Nat} (h : zcf ws sr (za1 ws L) P) (hn : (zae ws L).Nodup) : (zae ws (L ++ [P])).Nodup := by
 rw [zfi]
 by_cases h0 : rdN (za ws P) = 0
 · simpa [h0] using hn
 · have := h.2.2 h0
   unfold za1 at this
   rw [if_neg h0, List.nodup_append]
   refine ⟨hn, by simp, ?_⟩
   intro a ha c hc
   simp at hc
   subst hc
   intro e
   subst e
   simp [ha] at this
theorem zlg {ws : List Int} {sr : Int} {P T : Nat} {L : List Nat} (h : zcf ws sr (za1 ws L) P) (hPT : P < T) : zdm ws sr P T L ↔ zdm ws sr (P + (rdS (za ws P)).toNat + 1) T (L ++ [P]) := by
 constructor
 · rintro ⟨M, hM, hn⟩
   cases M with
   | nil =>
     have hM' : T = P := hM
     omega
   | cons x M =>
     obtain ⟨rfl, s, hs, t⟩ := hM
     rw [zi6 h] at hs
     cases hs
     exact ⟨_, t, by simpa using hn⟩
 · rintro ⟨M, hM, hn⟩
   exact ⟨P :: M, .cons (zi6 h) hM, by simpa using hn⟩
theorem zol {ws : List Int} {sr : Int} {P T : Nat} {L : List Nat} (h : ¬ zcf ws sr (za1 ws L) P) (hPT : P < T) : ¬ zdm ws sr P T L := by
 rintro ⟨M, hM, hn⟩
 cases M with
 | nil =>
   have hM' : T = P := hM
   omega
 | cons x M =>
   obtain ⟨rfl, s, hs, t⟩ := hM
   obtain ⟨g1, g2, _⟩ := zdi hs
   refine h ⟨g1, g2, fun h0 => ?_⟩
   unfold za1
   apply decide_eq_false
   intro hm
   have e : L ++ P :: M = (L ++ [P]) ++ M := by simp
   rw [e, zep, zfi, if_neg h0] at hn
   have hn2 := (List.nodup_append.1 hn).1
   have := (List.nodup_append.1 hn2).2.2 _ hm _ (List.mem_singleton.2 rfl)
   exact this rfl
theorem zdz {B b off : Nat} {w W : World} {ws : List Int} (hbB : b < B) (hb : b < w.heap.size) (hc : ∀ i, i < ws.length -> w.cell? ⟨b, off + i, none⟩ = some (.int .u64 (za ws i))) (hB : Below B w W) : b < W.heap.size /\ ∀ i, i < ws.length -> W.cell? ⟨b, off + i, none⟩ = some (.int .u64 (za ws i)) :=
 ⟨Nat.lt_of_lt_of_le hb hB.size, fun i hi => by rw [hB.cell (p := ⟨b, off + i, none⟩) hbB]; exact hc i hi⟩
set_option maxHeartbeats 4000000 in
theorem zd7 (b off cw : Nat) (ws : List Int) (smz toh top : Int) (cyc : Bool) (sn old cpz sr : Int) (ar : Option Addr) (cr : Nat) (rs : List (Int × Int)) (B Bp sv bl cl bs bc : Nat) (vp : Value) (nc : Nat) (hcop : Int -> Bool) (S T : Nat) (w : World) (hS : zab B Bp w sv bl bs bc ws.length #[.slice (some ⟨b, off, none⟩) ws.length cw, .int .i64 smz, .int .i64 toh, .int .i64 top, .bool cyc, .int .i64 sn, .int .i64 old, .int .i64 cpz, .int .i64 sr, .slice ar rs.length cr, .slice (some ⟨bl, 0, none⟩) ws.length cl, vp, .map (some bs), .map (some bc)] vp (zcb []) [] 0 nc (za1 ws []) hcop) (hb : b < w.heap.size) (hbB : b < B) (hc : ∀ i, i < ws.length -> w.cell? ⟨b, off + i, none⟩ = some (.int .u64 (za ws i))) (hn : ws.length <= 8000) (hw : ze ws) (t0 : 0 <= toh) (t1 : toh <= 1) (s0 : 256 <= smz) (s1 : smz <= 4000) (hF : toh * smz + 1 = S) (hT : top = T) (hST : S <= T) (hTn : T <= ws.length) :
 Calls Tryz.prog 89 #[.pointer (some ⟨sv, 0, none⟩)] w fun e w' => ∃ q, e = .returned (.bool q) /\ (q = true ↔ zdb ws sr S T) /\ Below B w w' /\ (q = true -> ∃ L vp', zm (nx1 ws sr) S T L /\ (zae ws L).Nodup /\ zab B Bp w' sv bl bs bc ws.length ((fun vp => #[.slice (some ⟨b, off, none⟩) ws.length cw, .int .i64 smz, .int .i64 toh, .int .i64 top, .bool cyc, .int .i64 sn, .int .i64 old, .int .i64 cpz, .int .i64 sr, .slice ar rs.length cr, .slice (some ⟨bl, 0, none⟩) ws.length cl, vp, .map (some bs), .map (some bc)]) vp') vp' (zcb L) L L.length nc (za1 ws L) hcop) := by
 have HF : Hid (toh * smz + 1 = (S : Int)) := hF
 have HT : Hid (top = (T : Int)) := hT
 have hBw : B <= w.heap.size := by have := hS.ge; have := hS.lt; have := hS.size; omega
 have hn' : ws.length <= 1048576 := by omega
 have KS := hS.cells
 have lsv := hS.lsv
 have HC : Hid (∀ i, i < ws.length -> w.cell? ⟨b, off + i, none⟩ = some (.int .u64 (za ws i))) := hc
 have KP : ∀ W, Below w.heap.size w W -> (Below w.heap.size w W /\ (∀ i, W.cell? ⟨sv, i, none⟩ = (#[.slice (some ⟨b, off, none⟩) ws.length cw, .int .i64 smz, .int .i64 toh, .int .i64 top, .bool cyc, .int .i64 sn, .int .i64 old, .int .i64 cpz, .int .i64 sr, .slice ar rs.length cr, .slice (some ⟨bl, 0, none⟩) ws.length cl, vp, .map (some bs), .map (some bc)] : Array Value)[i]?)) := fun W hW => ⟨hW, zd KS hW lsv⟩
 clear hF hc hT
 go_enter Tryz.func89, Tryz.ntmps89
 go_wp2
 have b1' := (Below.refl w.heap.size w).drew
 go_cut [3] from 4 to 13 (fun s3 wc => s3 = .int .i64 (S : Int) /\ Below w.heap.size w wc)
 case first =>
  go_region_held3 (fun W => Below w.heap.size w W /\ (∀ i, W.cell? ⟨sv, i, none⟩ = (#[.slice (some ⟨b, off, none⟩) ws.length cw, .int .i64 smz, .int .i64 toh, .int .i64 top, .bool cyc, .int .i64 sn, .int .i64 old, .int .i64 cpz, .int .i64 sr, .slice ar rs.length cr, .slice (some ⟨bl, 0, none⟩) ws.length cl, vp, .map (some bs), .map (some bc)] : Array Value)[i]?)) (first | exact KP _ (by assumption) | exact KP _ b1') (first | (go_at_call 20; refine (zdo _ _ _ _ _ _ _ _ _ _ _ _ _ _ toh (S : Int) _ t0 t1 s0 s1 HF.out).mono ?_; rintro e w' ⟨rfl, hb⟩; have hB3 := zb (w := w) (And.left (by assumption)) hb; clear hb))
  all_goals (go_wp2_with fail; go_meet; exact ⟨rfl, by assumption⟩)
 case rest =>
  obtain ⟨rfl, hBc⟩ := hcut
  have Sc := hS.below hBc
  have Bc := zaq hBc hBw
  clear KP KS b1' hS
  go_wp2
  go_loopw [3] (fun u3 wr => ∃ (P : Nat) (L : List Nat) (vp' : Value), u3 = .int .i64 (P : Int) /\ P <= T + 257 /\ zm (nx1 ws sr) S P L /\ (zae ws L).Nodup /\ (zdb ws sr S T ↔ zdm ws sr P T L) /\ zab B Bp wr sv bl bs bc ws.length ((fun vp => #[.slice (some ⟨b, off, none⟩) ws.length cw, .int .i64 smz, .int .i64 toh, .int .i64 top, .bool cyc, .int .i64 sn, .int .i64 old, .int .i64 cpz, .int .i64 sr, .slice ar rs.length cr, .slice (some ⟨bl, 0, none⟩) ws.length cl, vp, .map (some bs), .map (some bc)]) vp') vp' (zcb L) L L.length nc (za1 ws L) hcop /\ Below B w wr) (fun u3 _ => T + 300 - (intOf u3).toNat)
  case atStart => exact ⟨S, [], vp, rfl, by omega, .nil _, by simp [zae], by unfold zdb zdm; simp, Sc, Bc⟩
  case round =>
   obtain ⟨P, L, vp', rfl, hPT, hCh, hnd, hgo, hR, hB⟩ := hrel
   have HG : Hid (zdb ws sr S T ↔ zdm ws sr P T L) := hgo
   have HCH : Hid (zm (nx1 ws sr) S P L) := hCh
   have HND : Hid ((zae ws L).Nodup) := hnd
   have hlen := hCh.len
   clear hgo hCh hnd Sc
   have KR := hR.cells
   have CR := zdz hbB hb HC.out hB
   have hfr : (fun vp => (#[.slice (some ⟨b, off, none⟩) ws.length cw, .int .i64 smz, .int .i64 toh, .int .i64 top, .bool cyc, .int .i64 sn, .int .i64 old, .int .i64 cpz, .int .i64 sr, .slice ar rs.length cr, .slice (some ⟨bl, 0, none⟩) ws.length cl, vp, .map (some bs), .map (some bc)] : Array Value)) vp' = (fun vp => (#[.slice (some ⟨b, off, none⟩) ws.length cw, .int .i64 smz, .int .i64 toh, .int .i64 top, .bool cyc, .int .i64 sn, .int .i64 old, .int .i64 cpz, .int .i64 sr, .slice ar rs.length cr, .slice (some ⟨bl, 0, none⟩) ws.length cl, vp, .map (some bs), .map (some bc)] : Array Value)) vp' := rfl
   obtain ⟨vq, hvq⟩ : ∃ vq, vq = vp' := ⟨_, rfl⟩
   subst hvq
   by_cases hlt : P < T
   · have hltd : (P : Int) < top := by rw [HT.out]; omega
     have hPn : P < ws.length := by omega
     by_cases hE : zcf ws sr (za1 ws L) P
     · have hstep := zlg hE hlt
       have HST : Hid (zdb ws sr S T ↔ zdm ws sr (P + (rdS (za ws P)).toNat + 1) T (L ++ [P])) := HG.out.trans hstep
       have HCN : Hid (zm (nx1 ws sr) S (P + (rdS (za ws P)).toNat + 1) (L ++ [P])) := HCH.out.snoc (zi6 hE)
       have HNN : Hid ((zae ws (L ++ [P])).Nodup) := zii hE HND.out
       have HE : Hid (zcf ws sr (za1 ws L) P) := hE
       have hsb := za2 (za ws P)
       clear hE hstep
       go_wp2_with (first | (go_at_call 106; refine (zg7 b off cw ws smz toh top cyc sn old cpz sr ar cr rs B Bp sv bl cl bs bc _ (zcb L) L L.length nc (za1 ws L) hcop _ P _ hR CR.1 hbB CR.2 hn' hw (by omega) (by omega) rfl hPn).mono ?_; rintro e w4 ⟨q, rfl, hq, b4, _, s4⟩; obtain rfl : q = true := hq.2 HE.out; clear hq; obtain ⟨v4, S4⟩ := s4 rfl; rw [zqz, zk2] at S4; have hB4 := hB.trans b4; have C4 := zdz hbB hb HC.out hB4) | (go_at_call 107; refine (zh5 b off cw ws smz toh top cyc sn old cpz sr ar cr rs sv bl cl bs bc v4 (zcb (L ++ [P])) _ P P _ S4.lsv S4.cells S4.lbl S4.leads C4.1 C4.2 hn' hw rfl hPn (by simp [zcb]) hPn).mono ?_; rintro e w5 ⟨rfl, b5⟩; have S5 := S4.below b5; have hB5 : Below B w w5 := hB4.trans (zaq b5 (by have := S4.size; have := S4.lt; have := S4.ge; omega))))
       have eP : (P : Int) + (rdS (za ws P) + 1) = ((P + (rdS (za ws P)).toNat + 1 : Nat) : Int) := by omega
       first
        | (refine ⟨⟨P + (rdS (za ws P)).toNat + 1, L ++ [P], v4, by rw [<- eP], by omega, HCN.out, HNN.out, HST.out, by simpa using S5, hB5⟩, by simp [intOf]; omega⟩)
        | (go_roundw
           case rel => exact ⟨P + (rdS (za ws P)).toNat + 1, L ++ [P], v4, by rw [<- eP], by omega, HCN.out, HNN.out, HST.out, by simpa using S5, hB5⟩
           case measure => simp [intOf]; omega)
     · have HNO : Hid (¬ zdb ws sr S T) := fun g => zol hE hlt (HG.out.1 g)
       have HE : Hid (¬ zcf ws sr (za1 ws L) P) := hE
       clear hE
       go_wp2_with (go_at_call 106; refine (zg7 b off cw ws smz toh top cyc sn old cpz sr ar cr rs B Bp sv bl cl bs bc _ (zcb L) L L.length nc (za1 ws L) hcop _ P _ hR CR.1 hbB CR.2 hn' hw (by omega) (by omega) rfl hPn).mono ?_; rintro e w4 ⟨q, rfl, hq, b4, _, s4⟩; obtain rfl : q = false := (by cases q with | false => rfl | true => exact absurd (hq.1 rfl) HE.out); clear hq s4)
       go_ret
       exact ⟨false, rfl, ⟨fun g => by simp at g, fun g => absurd g HNO.out⟩, hB.trans b4, fun g => by simp at g⟩
   · by_cases he : P = T
     · have hed : decide ((P : Int) < top) = false := decide_eq_false (by rw [HT.out]; omega)
       have heq : ((P : Int) == top) = true := by rw [HT.out]; simp; omega
       have HGG : Hid (zdb ws sr S T) := HG.out.2 (by rw [he]; exact zmu _ _ _ _ HND.out)
       have HCT : Hid (zm (nx1 ws sr) S T L) := by show zm (nx1 ws sr) S T L; rw [<- he]; exact HCH.out
       clear he hlt
       go_wp2
       go_ret
       first
        | exact ⟨true, rfl, ⟨fun _ => HGG.out, fun _ => rfl⟩, hB, fun _ => ⟨L, _, HCT.out, HND.out, hR⟩⟩
        | exact Or.inr ⟨rfl, HGG.out, hB, L, HCT.out, HND.out, _, hR⟩
        | exact Or.inr ⟨rfl, HGG.out, hB, L, _, HCT.out, HND.out, hR⟩
     · have hed : decide ((P : Int) < top) = false := decide_eq_false (by rw [HT.out]; omega)
       have heq : ((P : Int) == top) = false := by rw [HT.out]; simp; omega
       have HNO : Hid (¬ zdb ws sr S T) := fun g => zlf (by omega) (HG.out.1 g)
       clear he hlt
       go_wp2
       go_ret
       first
        | exact ⟨false, rfl, ⟨fun g => by simp at g, fun g => absurd g HNO.out⟩, hB, fun g => by simp at g⟩
        | exact Or.inl ⟨rfl, HNO.out, hB⟩
def zk (ws : List Int) (O : List Nat) : List Nat := O.filter (fun p => !zas ws p)
def zl (ws : List Int) (L O : List Nat) (i : Nat) : Int := if i ∈ O then (if zas ws i = true then fwP (za ws i) else (i : Int)) else zcb L i
def zbi (ws : List Int) (O : List Nat) (z : Int) : Bool := decide (z ∈ (tgs ws O).map (fun q : Nat => (q : Int)))
theorem zpd {ws : List Int} {O : List Nat} {p : Nat} (h : zas ws p = true) : zk ws (O ++ [p]) = zk ws O := by simp [zk, h]
theorem zpe {ws : List Int} {O : List Nat} {p : Nat} (h : zas ws p = false) : zk ws (O ++ [p]) = zk ws O ++ [p] := by simp [zk, h]
theorem zt8 {ws : List Int} {L O : List Nat} {p : Nat} (h : zas ws p = true) : (fun i => if i = p then fwP (za ws p) else zl ws L O i) = zl ws L (O ++ [p]) := by
 funext i
 unfold zl
 by_cases e : i = p
 · subst e; simp [h]
 · simp [e]
theorem zt9 {ws : List Int} {L O : List Nat} {p : Nat} (h : zas ws p = false) : (fun i => if i = p then (p : Int) else zl ws L O i) = zl ws L (O ++ [p]) := by
 funext i
 unfold zl
 by_cases e : i = p
 · subst e; simp [h]
 · simp [e]
theorem zmt (x : Int) : ((fwP x).toNat : Int) = fwP x := by have := zjr x; omega
theorem zvi {ws : List Int} {O : List Nat} {p : Nat} (h : zas ws p = true) : (fun z => decide (z = fwP (za ws p)) || zbi ws O z) = zbi ws (O ++ [p]) := by
 funext z
 unfold zbi
 rw [zgr h]
 have e := zmt (za ws p)
 simp only [zr, List.map_append, List.map_cons, List.map_nil, List.mem_append, List.mem_singleton, e]
 rw [Bool.eq_iff_iff]
 simp
 exact Or.comm
theorem zvj {ws : List Int} {O : List Nat} {p : Nat} (h : zas ws p = false) : zbi ws (O ++ [p]) = zbi ws O := by
 funext z
 unfold zbi
 rw [zhi h]
theorem zpf {ws : List Int} {p : Nat} (h : zb6 (za ws p) = true) : zas ws p = true := by
 have : zah (za ws p) = false := by
  rw [<- Bool.not_eq_true]
  intro g
  rw [zkv g] at h
  simp at h
 simp [zas, h, this]
theorem zkl {ws : List Int} {p : Nat} (h : zah (za ws p) = true) : zas ws p = false := by simp [zas, h]
theorem zg6 {ws : List Int} {sr : Int} {S T : Nat} {L O : List Nat} {y : Int} (hL : zm (nx1 ws sr) S T L) (hS : 1 <= S) (hO : ∀ p ∈ O, ¬ (S <= p /\ p < T)) (hy : 0 <= y) : zbu (S : Int) (T : Int) (zl ws L O) y = true ↔ y.toNat ∈ L := by
 unfold zbu
 simp only [Bool.and_eq_true, decide_eq_true_eq, beq_iff_eq]
 constructor
 · rintro ⟨⟨h1, h2⟩, h3⟩
   have hn : y.toNat ∉ O := fun g => hO _ g (by omega)
   unfold zl zcb at h3
   rw [if_neg hn] at h3
   by_cases g : y.toNat ∈ L
   · exact g
   · rw [if_neg g] at h3; omega
 · intro h
   have := hL.mem _ h
   have hn : y.toNat ∉ O := fun g => hO _ g (by omega)
   refine ⟨by omega, ?_⟩
   unfold zl zcb
   rw [if_neg hn, if_pos h]
   omega
def zd6 (ws : List Int) (sr : Int) (L : List Nat) (F Od : Nat) (cpz : Int) : Prop := ∃ O, zm (nx2 ws sr L) F Od O /\ (tgs ws O).Nodup /\ (zae ws (L ++ zk ws O)).Nodup /\ (zai ws O : Int) = cpz
def zcc (ws : List Int) (sr : Int) (L : List Nat) (P Od : Nat) (cpz : Int) (O : List Nat) : Prop := ∃ M, zm (nx2 ws sr L) P Od M /\ (tgs ws (O ++ M)).Nodup /\ (zae ws (L ++ zk ws (O ++ M))).Nodup /\ (zai ws (O ++ M) : Int) = cpz
theorem zqx {ws : List Int} {sr : Int} {L : List Nat} {P Od : Nat} {cpz : Int} {O : List Nat} (h : Od < P) : ¬ zcc ws sr L P Od cpz O := fun ⟨M, hM, _⟩ => by have := hM.le; omega
theorem zsq {ws : List Int} {sr : Int} {L : List Nat} {Od : Nat} {cpz : Int} {O : List Nat} (h1 : (tgs ws O).Nodup) (h2 : (zae ws (L ++ zk ws O)).Nodup) : zcc ws sr L Od Od cpz O ↔ (zai ws O : Int) = cpz := by
 constructor
 · rintro ⟨M, hM, _, _, hs⟩
   cases M with
   | nil => simpa using hs
   | cons x M =>
     obtain ⟨rfl, s, hs', t⟩ := hM
     have := t.le
     omega
 · exact fun h => ⟨[], .nil _, by simpa using h1, by simpa using h2, by simpa using h⟩
theorem zjq {ws : List Int} {sr : Int} {L : List Nat} {P Od s : Nat} {cpz : Int} {O : List Nat} (hs : nx2 ws sr L P = some s) (hP : P < Od) : zcc ws sr L P Od cpz O ↔ zcc ws sr L (P + s + 1) Od cpz (O ++ [P]) := by
 constructor
 · rintro ⟨M, hM, r⟩
   cases M with
   | nil =>
     have hM' : Od = P := hM
     omega
   | cons x M =>
     obtain ⟨rfl, s', hs', t⟩ := hM
     rw [hs] at hs'
     cases hs'
     exact ⟨_, t, by simpa using r⟩
 · rintro ⟨M, hM, r⟩
   exact ⟨P :: M, .cons hs hM, by simpa using r⟩
theorem zsr {ws : List Int} {sr : Int} {S T : Nat} {L O : List Nat} {P : Nat} (hL : zm (nx1 ws sr) S T L) (hS : 1 <= S) (hO : ∀ p ∈ O, ¬ (S <= p /\ p < T)) (h : zc4 ws S T (zl ws L O) (zbi ws O) P) (hn : (tgs ws O).Nodup) :
 zas ws P = true /\ nx2 ws sr L P = some (rdS (za ws (zr ws P))).toNat /\ zr ws P ∈ L /\ (tgs ws (O ++ [P])).Nodup := by
 have hf := zpf h.1
 have hm : zr ws P ∈ L := (zg6 hL hS hO (zjr _).1).1 h.2.1
 have hr : zah (za ws P) = false := by simp only [zas, Bool.and_eq_true, Bool.not_eq_true'] at hf; exact hf.1
 refine ⟨hf, ?_, hm, ?_⟩
 · unfold nx2
   rw [if_neg (by simp [hr]), if_pos ⟨h.1, hm⟩]
 · rw [zgr hf, List.nodup_append]
   refine ⟨hn, by simp, ?_⟩
   intro a ha c hc e
   simp at hc
   subst hc
   subst e
   have := h.2.2
   unfold zbi at this
   have := of_decide_eq_false this
   exact this (List.mem_map.2 ⟨_, ha, zmt _⟩)
theorem zqy {ws : List Int} {sr : Int} {S T : Nat} {L O M : List Nat} {P s : Nat} (hL : zm (nx1 ws sr) S T L) (hS : 1 <= S) (hO : ∀ p ∈ O, ¬ (S <= p /\ p < T)) (h : ¬ zc4 ws S T (zl ws L O) (zbi ws O) P) (hs : nx2 ws sr L P = some s) (hn : (tgs ws (O ++ P :: M)).Nodup) : zah (za ws P) = true := by
 by_cases hr : zah (za ws P) = true
 · exact hr
 · rw [Bool.not_eq_true] at hr
   obtain ⟨g1, g2, _⟩ := zfp hs hr
   exfalso
   refine h ⟨g1, (zg6 hL hS hO (zjr _).1).2 g2, ?_⟩
   unfold zbi
   apply decide_eq_false
   intro hm
   obtain ⟨a, ha, e⟩ := List.mem_map.1 hm
   have ea : a = zr ws P := by unfold zr; omega
   subst ea
   have e2 : O ++ P :: M = (O ++ [P]) ++ M := by simp
   rw [e2] at hn
   unfold tgs at hn
   rw [List.filter_append, List.map_append] at hn
   have hn2 := (List.nodup_append.1 hn).1
   have hn3 : (tgs ws (O ++ [P])).Nodup := hn2
   rw [zgr (zpf g1)] at hn3
   exact (List.nodup_append.1 hn3).2.2 _ ha _ (List.mem_singleton.2 rfl) rfl
theorem zab.mono {B Bp : Nat} {w : World} {sv bl bs bc n : Nat} {C : Array Value} {vp : Value} {lead : Nat -> Int} {pl : List Nat} {ns nc ms mc : Nat} {hser hcop : Int -> Bool} (h : zab B Bp w sv bl bs bc n C vp lead pl ns nc hser hcop) (hs : ns <= ms) (hc : nc <= mc) : zab B Bp w sv bl bs bc n C vp lead pl ms mc hser hcop :=
 ⟨h.head, h.row, h.own, h.ser.mono hs, h.cop.mono hc, h.ge, h.lt, h.ne, h.size⟩
theorem zt6 (ws : List Int) (O : List Nat) : (zk ws O).length <= O.length := List.length_filter_le _ _
theorem zqw {ws : List Int} {sr : Int} {h : Int -> Bool} {P : Nat} (hE : zcf ws sr h P) : zas ws P = false := zkl hE.1
theorem zsp {ws : List Int} {sr : Int} {h : Int -> Bool} {L : List Nat} {P : Nat} (hE : zcf ws sr h P) : nx2 ws sr L P = some (rdS (za ws P)).toNat := by
 unfold nx2
 rw [if_pos hE.1, if_pos hE.2.1]
theorem zt7 {ws : List Int} {sr : Int} {S T : Nat} {L O : List Nat} {P Od : Nat} {cpz : Int} (hL : zm (nx1 ws sr) S T L) (hS : 1 <= S) (hO : ∀ p ∈ O, ¬ (S <= p /\ p < T)) (hF : ¬ zc4 ws S T (zl ws L O) (zbi ws O) P) (hE : ¬ zcf ws sr (za1 ws (L ++ zk ws O)) P) (hP : P < Od) : ¬ zcc ws sr L P Od cpz O := by
 rintro ⟨M, hM, h1, h2, _⟩
 cases M with
 | nil =>
   have hM' : Od = P := hM
   omega
 | cons x M =>
   rename_i hsum'
   obtain ⟨rfl, s, hs, t⟩ := hM
   have hr := zqy hL hS hO hF hs h1
   have g2 := (ziy hs hr).1
   refine hE ⟨hr, g2, fun h0 => ?_⟩
   unfold za1
   apply decide_eq_false
   intro hm
   have e : zk ws (O ++ P :: M) = (zk ws O ++ [P]) ++ zk ws M := by simp [zk, zkl hr]
   rw [e, <- List.append_assoc, <- List.append_assoc, zep, zfi, if_neg h0] at h2
   have h3 := (List.nodup_append.1 h2).1
   exact (List.nodup_append.1 h3).2.2 _ hm _ (List.mem_singleton.2 rfl) rfl
set_option maxHeartbeats 8000000 in
theorem zho (b off cw : Nat) (ws : List Int) (smz toh top : Int) (cyc : Bool) (sn old cpz sr : Int) (ar : Option Addr) (cr : Nat) (rs : List (Int × Int)) (B Bp sv bl cl bs bc : Nat) (vp : Value) (S T F Od : Nat) (L : List Nat) (w : World) (hS : zab B Bp w sv bl bs bc ws.length #[.slice (some ⟨b, off, none⟩) ws.length cw, .int .i64 smz, .int .i64 toh, .int .i64 top, .bool cyc, .int .i64 sn, .int .i64 old, .int .i64 cpz, .int .i64 sr, .slice ar rs.length cr, .slice (some ⟨bl, 0, none⟩) ws.length cl, vp, .map (some bs), .map (some bc)] vp (zl ws L []) (L ++ zk ws []) L.length 0 (za1 ws (L ++ zk ws [])) (zbi ws [])) (hb : b < w.heap.size) (hbB : b < B) (hc : ∀ i, i < ws.length -> w.cell? ⟨b, off + i, none⟩ = some (.int .u64 (za ws i))) (hn : ws.length <= 8000) (hw : ze ws) (t0 : 0 <= toh) (t1 : toh <= 1) (s0 : 256 <= smz) (s1 : smz <= 4000) (hSe : toh * smz + 1 = S) (hT : top = T) (hF : (1 - toh) * smz + 1 = F) (hOd : old = Od) (hS1 : 1 <= S) (hTn : T <= ws.length) (hFO : F <= Od) (hOn : Od <= ws.length) (hap : T <= F \/ Od <= S) (hL : zm (nx1 ws sr) S T L) (hLn : (zae ws L).Nodup) :
 Calls Tryz.prog 110 #[.pointer (some ⟨sv, 0, none⟩)] w fun e w' => ∃ q, e = .returned (.bool q) /\ (q = true ↔ zd6 ws sr L F Od cpz) /\ Below B w w' /\ (q = false -> ∃ vp' lead' pl' ns' nc' h1 h2, zab B Bp w' sv bl bs bc ws.length ((fun vp => #[.slice (some ⟨b, off, none⟩) ws.length cw, .int .i64 smz, .int .i64 toh, .int .i64 top, .bool cyc, .int .i64 sn, .int .i64 old, .int .i64 cpz, .int .i64 sr, .slice ar rs.length cr, .slice (some ⟨bl, 0, none⟩) ws.length cl, vp, .map (some bs), .map (some bc)]) vp') vp' lead' pl' ns' nc' h1 h2) /\ (q = true -> ∃ O vp', zm (nx2 ws sr L) F Od O /\ (tgs ws O).Nodup /\ (zae ws (L ++ zk ws O)).Nodup /\ (zai ws O : Int) = cpz /\ zab B Bp w' sv bl bs bc ws.length ((fun vp => #[.slice (some ⟨b, off, none⟩) ws.length cw, .int .i64 smz, .int .i64 toh, .int .i64 top, .bool cyc, .int .i64 sn, .int .i64 old, .int .i64 cpz, .int .i64 sr, .slice ar rs.length cr, .slice (some ⟨bl, 0, none⟩) ws.length cl, vp, .map (some bs), .map (some bc)]) vp') vp' (zl ws L O) (L ++ zk ws O) (L.length + O.length) O.length (za1 ws (L ++ zk ws O)) (zbi ws O)) := by
 have HSe : Hid (toh * smz + 1 = (S : Int)) := hSe
 have HF : Hid ((1 - toh) * smz + 1 = (F : Int)) := hF
 have HT : Hid (top = (T : Int)) := hT
 have HOd : Hid (old = (Od : Int)) := hOd
 have hTl : top <= ws.length := by omega
 have u0 : 0 <= 1 - toh := by omega
 have u1 : 1 - toh <= 1 := by omega
 have hBw : B <= w.heap.size := by have := hS.ge; have := hS.lt; have := hS.size; omega
 have hn' : ws.length <= 1048576 := by omega
 have KS := hS.cells
 have lsv := hS.lsv
 have hLl := hL.len
 have HL : Hid (zm (nx1 ws sr) S T L) := hL
 have HC : Hid (∀ i, i < ws.length -> w.cell? ⟨b, off + i, none⟩ = some (.int .u64 (za ws i))) := hc
 have HLN : Hid ((zae ws L).Nodup) := hLn
 have KP : ∀ W, Below w.heap.size w W -> (Below w.heap.size w W /\ (∀ i, W.cell? ⟨sv, i, none⟩ = (#[.slice (some ⟨b, off, none⟩) ws.length cw, .int .i64 smz, .int .i64 toh, .int .i64 top, .bool cyc, .int .i64 sn, .int .i64 old, .int .i64 cpz, .int .i64 sr, .slice ar rs.length cr, .slice (some ⟨bl, 0, none⟩) ws.length cl, vp, .map (some bs), .map (some bc)] : Array Value)[i]?)) := fun W hW => ⟨hW, zd KS hW lsv⟩
 clear hF hc hT hSe hOd hL hLn
 go_enter Tryz.func110, Tryz.ntmps110
 go_wp2
 have b1' := (Below.refl w.heap.size w).drew
 go_cut [3, 4] from 5 to 14 (fun s3 s4 wc => s3 = .int .i64 (F : Int) /\ s4 = .int .i64 0 /\ Below w.heap.size w wc)
 case first =>
  go_region_held3 (fun W => Below w.heap.size w W /\ (∀ i, W.cell? ⟨sv, i, none⟩ = (#[.slice (some ⟨b, off, none⟩) ws.length cw, .int .i64 smz, .int .i64 toh, .int .i64 top, .bool cyc, .int .i64 sn, .int .i64 old, .int .i64 cpz, .int .i64 sr, .slice ar rs.length cr, .slice (some ⟨bl, 0, none⟩) ws.length cl, vp, .map (some bs), .map (some bc)] : Array Value)[i]?)) (first | exact KP _ (by assumption) | exact KP _ b1') (first | (go_at_call 109; refine (zfy _ _ _ _ _ _ _ _ _ _ _ _ _ _ _ t0 t1).mono ?_; rintro e w' ⟨rfl, hb⟩; have hB3 := zb (w := w) (And.left (by assumption)) hb; clear hb) | (go_at_call 20; refine (zdo _ _ _ _ _ _ _ _ _ _ _ _ _ _ (1 - toh) (F : Int) _ u0 u1 s0 s1 HF.out).mono ?_; rintro e w' ⟨rfl, hb⟩; have hB3 := zb (w := w) (And.left (by assumption)) hb; clear hb))
  all_goals (go_wp2_with fail; go_meet; exact ⟨rfl, rfl, by assumption⟩)
 case rest =>
  obtain ⟨rfl, rfl, hBc⟩ := hcut
  have Sc := hS.below hBc
  have Bc := zaq hBc hBw
  clear KP KS b1' hS
  go_wp2
  go_loopw [3, 4] (fun u3 u4 wr => ∃ (P : Nat) (O : List Nat) (vp' : Value), u3 = .int .i64 (P : Int) /\ u4 = .int .i64 (zai ws O : Int) /\ P <= Od + 257 /\ zm (nx2 ws sr L) F P O /\ (tgs ws O).Nodup /\ (zae ws (L ++ zk ws O)).Nodup /\ (zd6 ws sr L F Od cpz ↔ zcc ws sr L P Od cpz O) /\ (∀ p ∈ O, ¬ (S <= p /\ p < T)) /\ zab B Bp wr sv bl bs bc ws.length ((fun vp => #[.slice (some ⟨b, off, none⟩) ws.length cw, .int .i64 smz, .int .i64 toh, .int .i64 top, .bool cyc, .int .i64 sn, .int .i64 old, .int .i64 cpz, .int .i64 sr, .slice ar rs.length cr, .slice (some ⟨bl, 0, none⟩) ws.length cl, vp, .map (some bs), .map (some bc)]) vp') vp' (zl ws L O) (L ++ zk ws O) (L.length + O.length) O.length (za1 ws (L ++ zk ws O)) (zbi ws O) /\ Below B w wr) (fun u3 _ _ => Od + 300 - (intOf u3).toNat)
  case atStart => exact ⟨F, [], vp, rfl, rfl, by omega, .nil _, by simp [tgs], by simpa [zk] using HLN.out, by unfold zd6 zcc; simp, by simp, Sc, Bc⟩
  case round =>
   obtain ⟨P, O, vq, rfl, rfl, hPT, hCh, hnt, hns, hgo, hO, hR, hB⟩ := hrel
   have hlen := hCh.len
   have hsum := ze7 hCh
   have hhl := zt6 ws O
   have HG : Hid (zd6 ws sr L F Od cpz ↔ zcc ws sr L P Od cpz O) := hgo
   have HCH : Hid (zm (nx2 ws sr L) F P O) := hCh
   have HNT : Hid ((tgs ws O).Nodup) := hnt
   have HNS : Hid ((zae ws (L ++ zk ws O)).Nodup) := hns
   have HOO : Hid (∀ p ∈ O, ¬ (S <= p /\ p < T)) := hO
   clear hgo hCh hnt hns hO Sc
   have KR := hR.cells
   have CR := zdz hbB hb HC.out hB
   have hpl : (L ++ zk ws O).length <= 10000 := by simp; omega
   by_cases hlt : P < Od
   · have hltd : (P : Int) < old := by rw [HOd.out]; omega
     have hPn : P < ws.length := by omega
     have HON : Hid (∀ p ∈ O ++ [P], ¬ (S <= p /\ p < T)) := fun p hp => by
      rcases List.mem_append.1 hp with h | h
      · exact HOO.out p h
      · simp at h; subst h; have := HCH.out.le; omega
     by_cases hFo : zc4 ws S T (zl ws L O) (zbi ws O) P
     · obtain ⟨f1, f2, f3, f4⟩ := zsr HL.out hS1 HOO.out hFo HNT.out
       have hq := (HL.out.mem _ f3).2.1
       have HFo : Hid (zc4 ws S top (zl ws L O) (zbi ws O) P) := by show zc4 ws S top (zl ws L O) (zbi ws O) P; rw [HT.out]; exact hFo
       have HST : Hid (zd6 ws sr L F Od cpz ↔ zcc ws sr L (P + (rdS (za ws (zr ws P))).toNat + 1) Od cpz (O ++ [P])) := HG.out.trans (zjq f2 hlt)
       have HCN : Hid (zm (nx2 ws sr L) F (P + (rdS (za ws (zr ws P))).toNat + 1) (O ++ [P])) := HCH.out.snoc f2
       have HNN : Hid ((tgs ws (O ++ [P])).Nodup) := f4
       have HNS2 : Hid ((zae ws (L ++ zk ws (O ++ [P]))).Nodup) := by show (zae ws (L ++ zk ws (O ++ [P]))).Nodup; rw [zpd f1]; exact HNS.out
       have hsb := za2 (za ws (zr ws P))
       have hsn := zke (O := O) f1
       have hqn : zr ws P < ws.length := by omega
       have hld : zl ws L (O ++ [P]) P = (zr ws P : Int) := by have e := zmt (za ws P); unfold zl zr; rw [if_pos (by simp), if_pos f1, e]
       have HLD : Hid (zl ws L (O ++ [P]) P = (zr ws P : Int)) := hld
       have HF1 : Hid (zas ws P = true) := f1
       clear hFo f1 f2 f3 f4 hld
       go_wp2_with (first | (go_at_call 126; refine (zhp b off cw ws smz toh top cyc sn old cpz sr ar cr rs B Bp sv bl cl bs bc vq (zl ws L O) (L ++ zk ws O) (L.length + O.length) O.length (za1 ws (L ++ zk ws O)) (zbi ws O) _ (S : Int) P _ hR CR.1 hbB CR.2 hn' hw (by omega) t0 t1 s0 s1 HSe.out hTl rfl hPn).mono ?_; rintro e w4 (⟨hbad, _⟩ | ⟨_, rfl, b4, S4⟩); exact absurd HFo.out hbad; rw [zt8 HF1.out, zvi HF1.out] at S4; have hB4 := hB.trans b4; have C4 := zdz hbB hb HC.out hB4) | (go_at_call 107; first | (refine (zh5 b off cw ws smz toh top cyc sn old cpz sr ar cr rs sv bl cl bs bc vq (zl ws L (O ++ [P])) _ P (zr ws P) _ S5.lsv S5.cells S5.lbl S5.leads C5.1 C5.2 hn' hw rfl hPn HLD.out hqn).mono ?_; rintro e w6 ⟨rfl, b6⟩; have S6 := S5.below b6; have hB6 : Below B w w6 := hB5.trans (zaq b6 (by have := S5.size; have := S5.lt; have := S5.ge; omega))) | (refine (zh5 b off cw ws smz toh top cyc sn old cpz sr ar cr rs sv bl cl bs bc vq (zl ws L (O ++ [P])) _ P (zr ws P) _ S4.lsv S4.cells S4.lbl S4.leads C4.1 C4.2 hn' hw rfl hPn HLD.out hqn).mono ?_; rintro e w5 ⟨rfl, b5⟩; have S5 := S4.below b5; have hB5 : Below B w w5 := hB4.trans (zaq b5 (by have := S4.size; have := S4.lt; have := S4.ge; omega)); have C5 := zdz hbB hb HC.out hB5)))
       have eP : (P : Int) + (rdS (za ws (zr ws P)) + 1) = ((P + (rdS (za ws (zr ws P))).toNat + 1 : Nat) : Int) := by omega
       have eS : (zai ws O : Int) + (rdS (za ws (zr ws P)) + 1) = ((zai ws (O ++ [P]) : Nat) : Int) := by omega
       have S7 : zab B Bp w6 sv bl bs bc ws.length ((fun vp => #[.slice (some ⟨b, off, none⟩) ws.length cw, .int .i64 smz, .int .i64 toh, .int .i64 top, .bool cyc, .int .i64 sn, .int .i64 old, .int .i64 cpz, .int .i64 sr, .slice ar rs.length cr, .slice (some ⟨bl, 0, none⟩) ws.length cl, vp, .map (some bs), .map (some bc)]) vq) vq (zl ws L (O ++ [P])) (L ++ zk ws (O ++ [P])) (L.length + (O ++ [P]).length) (O ++ [P]).length (za1 ws (L ++ zk ws (O ++ [P]))) (zbi ws (O ++ [P])) := by
        rw [zpd HF1.out]
        exact S6.mono (by simp) (by simp)
       first
        | (refine ⟨⟨P + (rdS (za ws (zr ws P))).toNat + 1, O ++ [P], vq, by rw [<- eP], by rw [<- eS], by omega, HCN.out, HNN.out, HNS2.out, HST.out, HON.out, S7, hB6⟩, by simp [intOf]; omega⟩)
        | (go_roundw
           case rel => exact ⟨P + (rdS (za ws (zr ws P))).toNat + 1, O ++ [P], vq, by rw [<- eP], by rw [<- eS], by omega, HCN.out, HNN.out, HNS2.out, HST.out, HON.out, S7, hB6⟩
           case measure => simp [intOf]; omega)
     · have HFo : Hid (¬ zc4 ws S top (zl ws L O) (zbi ws O) P) := by show ¬ zc4 ws S top (zl ws L O) (zbi ws O) P; rw [HT.out]; exact hFo
       by_cases hE : zcf ws sr (za1 ws (L ++ zk ws O)) P
       · have f1 := zqw hE
         have f2 := zsp (L := L) hE
         have HST : Hid (zd6 ws sr L F Od cpz ↔ zcc ws sr L (P + (rdS (za ws P)).toNat + 1) Od cpz (O ++ [P])) := HG.out.trans (zjq f2 hlt)
         have HCN : Hid (zm (nx2 ws sr L) F (P + (rdS (za ws P)).toNat + 1) (O ++ [P])) := HCH.out.snoc f2
         have HNN : Hid ((tgs ws (O ++ [P])).Nodup) := by show (tgs ws (O ++ [P])).Nodup; rw [zhi f1]; exact HNT.out
         have HNS2 : Hid ((zae ws (L ++ zk ws (O ++ [P]))).Nodup) := by show (zae ws (L ++ zk ws (O ++ [P]))).Nodup; rw [zpe f1, <- List.append_assoc]; exact zii hE HNS.out
         have HE : Hid (zcf ws sr (za1 ws (L ++ zk ws O)) P) := hE
         have hsb := za2 (za ws P)
         have hsn := zkf (O := O) f1
         have hld : zl ws L (O ++ [P]) P = (P : Int) := by unfold zl; rw [if_pos (by simp), if_neg (by simp [f1])]
         have HLD : Hid (zl ws L (O ++ [P]) P = (P : Int)) := hld
         have HF1 : Hid (zas ws P = false) := f1
         clear hFo f1 f2 hld hE
         go_wp2_with (first | (go_at_call 126; refine (zhp b off cw ws smz toh top cyc sn old cpz sr ar cr rs B Bp sv bl cl bs bc vq (zl ws L O) (L ++ zk ws O) (L.length + O.length) O.length (za1 ws (L ++ zk ws O)) (zbi ws O) _ (S : Int) P _ hR CR.1 hbB CR.2 hn' hw (by omega) t0 t1 s0 s1 HSe.out hTl rfl hPn).mono ?_; rintro e w4 (⟨_, rfl, b4⟩ | ⟨hbad, _⟩); rotate_left; exact absurd hbad HFo.out; have S4 := hR.below b4; have hB4 : Below B w w4 := hB.trans (zaq b4 (by have := hR.size; have := hR.lt; have := hR.ge; omega)); have C4 := zdz hbB hb HC.out hB4) | (go_at_call 106; refine (zg7 b off cw ws smz toh top cyc sn old cpz sr ar cr rs B Bp sv bl cl bs bc vq (zl ws L O) (L ++ zk ws O) (L.length + O.length) O.length (za1 ws (L ++ zk ws O)) (zbi ws O) _ P _ S4 C4.1 hbB C4.2 hn' hw (by omega) hpl rfl hPn).mono ?_; rintro e w5 ⟨q, rfl, hq, b5, _, s5⟩; obtain rfl : q = true := hq.2 HE.out; clear hq; obtain ⟨v5, S5⟩ := s5 rfl; clear s5; rw [zt9 HF1.out, zk2] at S5; have hB5 := hB4.trans b5; have C5 := zdz hbB hb HC.out hB5) | (go_at_call 107; refine (zh5 b off cw ws smz toh top cyc sn old cpz sr ar cr rs sv bl cl bs bc v5 (zl ws L (O ++ [P])) _ P P _ S5.lsv S5.cells S5.lbl S5.leads C5.1 C5.2 hn' hw rfl hPn HLD.out hPn).mono ?_; rintro e w6 ⟨rfl, b6⟩; have S6 := S5.below b6; have hB6 : Below B w w6 := hB5.trans (zaq b6 (by have := S5.size; have := S5.lt; have := S5.ge; omega))))
         have eP : (P : Int) + (rdS (za ws P) + 1) = ((P + (rdS (za ws P)).toNat + 1 : Nat) : Int) := by omega
         have S7 : zab B Bp w6 sv bl bs bc ws.length ((fun vp => #[.slice (some ⟨b, off, none⟩) ws.length cw, .int .i64 smz, .int .i64 toh, .int .i64 top, .bool cyc, .int .i64 sn, .int .i64 old, .int .i64 cpz, .int .i64 sr, .slice ar rs.length cr, .slice (some ⟨bl, 0, none⟩) ws.length cl, vp, .map (some bs), .map (some bc)]) v5) v5 (zl ws L (O ++ [P])) (L ++ zk ws (O ++ [P])) (L.length + (O ++ [P]).length) (O ++ [P]).length (za1 ws (L ++ zk ws (O ++ [P]))) (zbi ws (O ++ [P])) := by
          rw [zpe HF1.out, <- List.append_assoc, zvj HF1.out]
          exact S6.mono (by simp; omega) (by simp)
         first
          | (refine ⟨⟨P + (rdS (za ws P)).toNat + 1, O ++ [P], v5, by rw [<- eP], by rw [hsn], by omega, HCN.out, HNN.out, HNS2.out, HST.out, HON.out, S7, hB6⟩, by simp [intOf]; omega⟩)
          | (go_roundw
             case rel => exact ⟨P + (rdS (za ws P)).toNat + 1, O ++ [P], v5, by rw [<- eP], by rw [hsn], by omega, HCN.out, HNN.out, HNS2.out, HST.out, HON.out, S7, hB6⟩
             case measure => simp [intOf]; omega)
       · have HNO : Hid (¬ zd6 ws sr L F Od cpz) := fun g => zt7 HL.out hS1 HOO.out hFo hE hlt (HG.out.1 g)
         have HE : Hid (¬ zcf ws sr (za1 ws (L ++ zk ws O)) P) := hE
         clear hFo hE
         go_wp2_with (first | (go_at_call 126; refine (zhp b off cw ws smz toh top cyc sn old cpz sr ar cr rs B Bp sv bl cl bs bc vq (zl ws L O) (L ++ zk ws O) (L.length + O.length) O.length (za1 ws (L ++ zk ws O)) (zbi ws O) _ (S : Int) P _ hR CR.1 hbB CR.2 hn' hw (by omega) t0 t1 s0 s1 HSe.out hTl rfl hPn).mono ?_; rintro e w4 (⟨_, rfl, b4⟩ | ⟨hbad, _⟩); rotate_left; exact absurd hbad HFo.out; have S4 := hR.below b4; have hB4 : Below B w w4 := hB.trans (zaq b4 (by have := hR.size; have := hR.lt; have := hR.ge; omega)); have C4 := zdz hbB hb HC.out hB4) | (go_at_call 106; refine (zg7 b off cw ws smz toh top cyc sn old cpz sr ar cr rs B Bp sv bl cl bs bc vq (zl ws L O) (L ++ zk ws O) (L.length + O.length) O.length (za1 ws (L ++ zk ws O)) (zbi ws O) _ P _ S4 C4.1 hbB C4.2 hn' hw (by omega) hpl rfl hPn).mono ?_; rintro e w5 ⟨q, rfl, hq, b5, f5, s5⟩; obtain rfl : q = false := (by cases q with | false => rfl | true => exact absurd (hq.1 rfl) HE.out); have S5 := S4.below (f5 rfl); clear hq s5 f5))
         go_ret
         exact ⟨false, rfl, ⟨fun g => by simp at g, fun g => absurd g HNO.out⟩, hB4.trans b5, fun _ => ⟨_, _, _, _, _, _, _, S5⟩, fun g => by simp at g⟩
   · have hed : decide ((P : Int) < old) = false := decide_eq_false (by rw [HOd.out]; omega)
     by_cases he : P = Od
     · have heq : ((P : Int) == old) = true := by rw [HOd.out]; simp; omega
       have hge : zcc ws sr L P Od cpz O ↔ (zai ws O : Int) = cpz := by rw [he]; exact zsq HNT.out HNS.out
       have HCT : Hid (zm (nx2 ws sr L) F Od O) := by show zm (nx2 ws sr L) F Od O; rw [<- he]; exact HCH.out
       clear he hlt
       by_cases hsm : (zai ws O : Int) = cpz
       · have hse : ((zai ws O : Int) == cpz) = true := by simpa using hsm
         have HSM : Hid ((zai ws O : Int) = cpz) := hsm
         have HGG : Hid (zd6 ws sr L F Od cpz) := HG.out.2 (hge.2 hsm)
         clear hsm hge
         go_wp2
         go_ret
         first
          | exact ⟨true, rfl, ⟨fun _ => HGG.out, fun _ => rfl⟩, hB, (fun g => by simp at g), fun _ => ⟨O, vq, HCT.out, HNT.out, HNS.out, HSM.out, hR⟩⟩
          | exact Or.inr ⟨rfl, HGG.out, hB, O, HCT.out, HNT.out, HNS.out, HSM.out, vq, hR⟩
          | exact Or.inr ⟨rfl, HGG.out, hB, O, vq, HCT.out, HNT.out, HNS.out, HSM.out, hR⟩
       · have hse : ((zai ws O : Int) == cpz) = false := by simpa using hsm
         have HNO : Hid (¬ zd6 ws sr L F Od cpz) := fun g => hsm (hge.1 (HG.out.1 g))
         clear hsm hge
         go_wp2
         go_ret
         first
          | exact ⟨false, rfl, ⟨fun g => by simp at g, fun g => absurd g HNO.out⟩, hB, fun _ => ⟨_, _, _, _, _, _, _, hR⟩, fun g => by simp at g⟩
          | exact Or.inl ⟨rfl, HNO.out, hB, _, _, _, _, _, _, _, hR⟩
     · have heq : ((P : Int) == old) = false := by rw [HOd.out]; simp; omega
       have HNO : Hid (¬ zd6 ws sr L F Od cpz) := fun g => zqx (by omega) (HG.out.1 g)
       clear he hlt
       go_wp2
       go_ret
       first
        | exact ⟨false, rfl, ⟨fun g => by simp at g, fun g => absurd g HNO.out⟩, hB, fun _ => ⟨_, _, _, _, _, _, _, hR⟩, fun g => by simp at g⟩
        | exact Or.inl ⟨rfl, HNO.out, hB, _, _, _, _, _, _, _, hR⟩
end Go.Proofs.YtglolopfeambfaaGreat
