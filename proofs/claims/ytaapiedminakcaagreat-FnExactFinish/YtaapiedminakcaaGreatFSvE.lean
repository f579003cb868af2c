/- - -/
import Derived.Test.YtaapiedminakcaaGreatFSvC
namespace Go.Proofs.YtaapiedminakcaaGreat
set_option maxRecDepth 20000
open Go.RowKit Go.Maps
set_option linter.unusedSimpArgs false
set_option linter.unusedVariables false
def zb1 (F top : Int) (lead : Nat -> Int) (x : Int) : Bool := decide (F <= x /\ x < top) && (lead x.toNat == x)
def zda (ws : List Int) (F top : Int) (lead : Nat -> Int) (hcop : Int -> Bool) (p : Nat) : Prop := za5 (za ws p) = true /\ zb1 F top lead (fwP (za ws p)) = true /\ hcop (fwP (za ws p)) = false
theorem zjy (x : Int) : 0 <= fwP x /\ fwP x <= 2147483647 := by
 unfold fwP
 split
 · rename_i h
   have := of_decide_eq_true h
   omega
 · omega
theorem zfz (x Y : Int) (w : World) (h0 : 0 <= x) (h1 : x < 18446744073709551616) (hY : fwP x = Y) :
 Calls Tryz.prog 181 #[.int .u64 x] w fun e w' => e = .returned (.tuple #[.int .i64 Y, .bool (za5 x)]) /\ w = w' := by
 subst hY; exact (zb5 x w h0 h1).mono fun e w' g => ⟨g.1, g.2.symm⟩
set_option maxHeartbeats 2000000 in
theorem zta (b off cw : Nat) (ws : List Int) (sm toh top : Int) (cyc : Bool) (sn old cp sr : Int) (ar : Option Addr) (cr : Nat) (rs : List (Int × Int)) (sv bl cl bs bc : Nat) (vp : Value) (lead : Nat -> Int) (x F : Int) (p : Nat) (w : World) (lsv : sv < w.heap.size) (KS : ∀ i, w.cell? ⟨sv, i, none⟩ = (#[.slice (some ⟨b, off, none⟩) ws.length cw, .int .i64 sm, .int .i64 toh, .int .i64 top, .bool cyc, .int .i64 sn, .int .i64 old, .int .i64 cp, .int .i64 sr, .slice ar rs.length cr, .slice (some ⟨bl, 0, none⟩) ws.length cl, vp, .map (some bs), .map (some bc)] : Array Value)[i]?) (lbl : bl < w.heap.size) (hl : ∀ i, i < ws.length -> w.cell? ⟨bl, i, none⟩ = some (.int .i64 (lead i))) (hb : b < w.heap.size) (hc : ∀ i, i < ws.length -> w.cell? ⟨b, off + i, none⟩ = some (.int .u64 (za ws i))) (hn : ws.length <= 1048576) (hw : zg ws) (t0 : 0 <= toh) (t1 : toh <= 1) (s0 : 256 <= sm) (s1 : sm <= 4000) (hF : toh * sm + 1 = F) (hT : top <= ws.length) (hx : x = p) (hp : p < ws.length) (h : ¬ (za5 (za ws p) = true /\ zb1 F top lead (fwP (za ws p)) = true)) :
 Calls Tryz.prog 190 #[.pointer (some ⟨sv, 0, none⟩), .int .i64 x] w fun e w' => e = .returned (.bool false) /\ Below w.heap.size w w' := by
 have x0 : 0 <= x := by omega
 have x1 : x < (ws.length : Int) := by omega
 have x2 : x.toNat = p := by omega
 have hwp := zw hw p
 have hcp := hc p hp
 have HF : Hid (toh * sm + 1 = F) := hF
 have HL : Hid (∀ i, i < ws.length -> w.cell? ⟨bl, i, none⟩ = some (.int .i64 (lead i))) := hl
 have HC : Hid (∀ i, i < ws.length -> w.cell? ⟨b, off + i, none⟩ = some (.int .u64 (za ws i))) := hc
 clear hx hl hc hF
 cases ho : za5 (za ws p) with
 | false =>
   clear h
   go_enter Tryz.func190, Tryz.ntmps190
   go_wp2_with (go_at_call 181; refine (zb5 _ _ hwp.1 hwp.2).mono ?_; rw [ho]; rintro e w1 ⟨rfl, rfl⟩)
   go_ret
   exact ⟨rfl, Below.refl _ _⟩
 | true =>
   have hst : (decide (F <= fwP (za ws p) /\ fwP (za ws p) < top) && (lead (fwP (za ws p)).toNat == fwP (za ws p))) = false := by
    rw [<- Bool.not_eq_true]; exact fun g => h ⟨ho, g⟩
   clear h
   generalize hYe : fwP (za ws p) = Y at *
   have HY : Hid (fwP (za ws p) = Y) := hYe
   clear hYe
   go_enter Tryz.func190, Tryz.ntmps190
   go_wp2_with (first | (go_at_call 181; refine (zfz (za ws p) Y _ hwp.1 hwp.2 HY.out).mono ?_; rw [ho]; rintro e w1 ⟨rfl, rfl⟩) | (go_at_call 83; refine (zct b off cw ws sm toh top cyc sn old cp sr ar cr rs sv bl cl bs bc vp lead Y F _ lsv KS lbl HL.out hb HC.out hn hw t0 t1 s0 s1 HF.out hT).mono ?_; rw [hst]; rintro e w2 ⟨rfl, b2⟩))
   go_ret
   exact ⟨rfl, b2⟩
set_option maxHeartbeats 2000000 in
theorem ztb (b off cw : Nat) (ws : List Int) (sm toh top : Int) (cyc : Bool) (sn old cp sr : Int) (ar : Option Addr) (cr : Nat) (rs : List (Int × Int)) (B Bp sv bl cl bs bc : Nat) (vp : Value) (lead : Nat -> Int) (pl : List Nat) (ns nc : Nat) (hser hcop : Int -> Bool) (x F Y : Int) (p : Nat) (w : World) (hS : zy B Bp w sv bl bs bc ws.length #[.slice (some ⟨b, off, none⟩) ws.length cw, .int .i64 sm, .int .i64 toh, .int .i64 top, .bool cyc, .int .i64 sn, .int .i64 old, .int .i64 cp, .int .i64 sr, .slice ar rs.length cr, .slice (some ⟨bl, 0, none⟩) ws.length cl, vp, .map (some bs), .map (some bc)] vp lead pl ns nc hser hcop) (hb : b < w.heap.size) (hbB : b < B) (hc : ∀ i, i < ws.length -> w.cell? ⟨b, off + i, none⟩ = some (.int .u64 (za ws i))) (hn : ws.length <= 1048576) (hw : zg ws) (hnc : nc <= 10000) (t0 : 0 <= toh) (t1 : toh <= 1) (s0 : 256 <= sm) (s1 : sm <= 4000) (hF : toh * sm + 1 = F) (hT : top <= ws.length) (hx : x = p) (hp : p < ws.length) (ho : za5 (za ws p) = true) (hY : fwP (za ws p) = Y) (hst : (decide (F <= Y /\ Y < top) && (lead Y.toNat == Y)) = true) :
 Calls Tryz.prog 190 #[.pointer (some ⟨sv, 0, none⟩), .int .i64 x] w fun e w' => (hcop Y = true /\ e = .returned (.bool false) /\ Below w.heap.size w w') \/ (hcop Y = false /\ e = .returned (.bool true) /\ Below B w w' /\ zy B Bp w' sv bl bs bc ws.length #[.slice (some ⟨b, off, none⟩) ws.length cw, .int .i64 sm, .int .i64 toh, .int .i64 top, .bool cyc, .int .i64 sn, .int .i64 old, .int .i64 cp, .int .i64 sr, .slice ar rs.length cr, .slice (some ⟨bl, 0, none⟩) ws.length cl, vp, .map (some bs), .map (some bc)] vp (fun i => if i = p then Y else lead i) pl ns (nc + 1) hser (fun z => decide (z = Y) || hcop z)) := by
 have x0 : 0 <= x := by omega
 have x1 : x < (ws.length : Int) := by omega
 have x2 : x.toNat = p := by omega
 have hwp := zw hw p
 have hcp := hc p hp
 have hYb := zjy (za ws p)
 rw [hY] at hYb
 have HF : Hid (toh * sm + 1 = F) := hF
 have HY : Hid (fwP (za ws p) = Y) := hY
 have HC : Hid (∀ i, i < ws.length -> w.cell? ⟨b, off + i, none⟩ = some (.int .u64 (za ws i))) := hc
 have KS := hS.cells
 have lsv := hS.lsv
 have hge := hS.ge
 have hsz := hS.size
 have hslt := hS.lt
 have wfY : (Lit.int .i64 Y).wf = true := wfI (by omega) (by omega)
 have wfx : (Lit.int .i64 x).wf = true := wfI (by omega) (by omega)
 clear hx hc hF hY
 go_enter Tryz.func190, Tryz.ntmps190
 go_upto_region 4 with (first | (go_at_call 181; refine (zfz (za ws p) Y _ hwp.1 hwp.2 HY.out).mono ?_; rw [ho]; rintro e w1 ⟨rfl, rfl⟩) | (go_at_call 83; refine (zct b off cw ws sm toh top cyc sn old cp sr ar cr rs sv bl cl bs bc vp lead Y F _ lsv KS hS.lbl hS.leads hb HC.out hn hw t0 t1 s0 s1 HF.out hT).mono ?_; rw [hst]; rintro e w2 ⟨rfl, b2⟩))
 have S2 := hS.below b2
 have KS2 := S2.cells
 obtain ⟨c, hlk⟩ := S2.cop.look wfY
 clear KS hcp
 cases hd : hcop Y with
 | true =>
   rw [hd] at hlk
   go_wp2
   go_ret
   exact .inl ⟨hd, rfl, b2⟩
 | false =>
   rw [hd] at hlk
   obtain ⟨w3, hup, hm3, hg3⟩ := S2.cop.put (by omega) wfY wfx
   have S3 := S2.putCop hm3 hg3
   have KS3 := S3.cells
   have q3 : w3.cell? ⟨bl, p, none⟩ = some (.int .i64 (lead p)) := S3.leads p hp
   have f3 := S3.row.frozen p
   have B3 : Below B w w3 := (zap b2 (by omega)).trans ((zin hg3).below (C := B) (by omega) (by have := b2.size; omega))
   go_wp2
   go_ret
   exact .inr ⟨hd, rfl, B3.setCell (p := ⟨bl, p, none⟩) (by show B <= bl; omega) _, S3.setLead p Y⟩
theorem zhx (b off cw : Nat) (ws : List Int) (sm toh top : Int) (cyc : Bool) (sn old cp sr : Int) (ar : Option Addr) (cr : Nat) (rs : List (Int × Int)) (B Bp sv bl cl bs bc : Nat) (vp : Value) (lead : Nat -> Int) (pl : List Nat) (ns nc : Nat) (hser hcop : Int -> Bool) (x F : Int) (p : Nat) (w : World) (hS : zy B Bp w sv bl bs bc ws.length #[.slice (some ⟨b, off, none⟩) ws.length cw, .int .i64 sm, .int .i64 toh, .int .i64 top, .bool cyc, .int .i64 sn, .int .i64 old, .int .i64 cp, .int .i64 sr, .slice ar rs.length cr, .slice (some ⟨bl, 0, none⟩) ws.length cl, vp, .map (some bs), .map (some bc)] vp lead pl ns nc hser hcop) (hb : b < w.heap.size) (hbB : b < B) (hc : ∀ i, i < ws.length -> w.cell? ⟨b, off + i, none⟩ = some (.int .u64 (za ws i))) (hn : ws.length <= 1048576) (hw : zg ws) (hnc : nc <= 10000) (t0 : 0 <= toh) (t1 : toh <= 1) (s0 : 256 <= sm) (s1 : sm <= 4000) (hF : toh * sm + 1 = F) (hT : top <= ws.length) (hx : x = p) (hp : p < ws.length) :
 Calls Tryz.prog 190 #[.pointer (some ⟨sv, 0, none⟩), .int .i64 x] w fun e w' => (¬ zda ws F top lead hcop p /\ e = .returned (.bool false) /\ Below w.heap.size w w') \/ (zda ws F top lead hcop p /\ e = .returned (.bool true) /\ Below B w w' /\ zy B Bp w' sv bl bs bc ws.length #[.slice (some ⟨b, off, none⟩) ws.length cw, .int .i64 sm, .int .i64 toh, .int .i64 top, .bool cyc, .int .i64 sn, .int .i64 old, .int .i64 cp, .int .i64 sr, .slice ar rs.length cr, .slice (some ⟨bl, 0, none⟩) ws.length cl, vp, .map (some bs), .map (some bc)] vp (fun i => if i = p then fwP (za ws p) else lead i) pl ns (nc + 1) hser (fun z => decide (z = fwP (za ws p)) || hcop z)) := by
 by_cases h : za5 (za ws p) = true /\ zb1 F top lead (fwP (za ws p)) = true
 · refine (ztb b off cw ws sm toh top cyc sn old cp sr ar cr rs B Bp sv bl cl bs bc vp lead pl ns nc hser hcop x F _ p w hS hb hbB hc hn hw hnc t0 t1 s0 s1 hF hT hx hp h.1 rfl h.2).mono ?_
   rintro e w' (⟨hd, r⟩ | ⟨hd, r⟩)
   · exact .inl ⟨fun g => by have := g.2.2; rw [hd] at this; simp at this, r⟩
   · exact .inr ⟨⟨h.1, h.2, hd⟩, r⟩
 · refine (zta b off cw ws sm toh top cyc sn old cp sr ar cr rs sv bl cl bs bc vp lead x F p w hS.lsv hS.cells hS.lbl hS.leads hb hc hn hw t0 t1 s0 s1 hF hT hx hp h).mono ?_
   rintro e w' r
   exact .inl ⟨fun g => h ⟨g.1, g.2.1⟩, r⟩
def zz (ws : List Int) (L : List Nat) : List Int := (L.map fun p => rdN (za ws p)).filter (fun z => decide (z ≠ 0))
def zaz (ws : List Int) (L : List Nat) (z : Int) : Bool := decide (z ∈ zz ws L)
def zcc (L : List Nat) (i : Nat) : Int := if i ∈ L then (i : Int) else 0
theorem zfl (ws : List Int) (L : List Nat) (p : Nat) : zz ws (L ++ [p]) = zz ws L ++ (if rdN (za ws p) = 0 then [] else [rdN (za ws p)]) := by
 by_cases h : rdN (za ws p) = 0 <;> simp [zz, h]
theorem zew (ws : List Int) (L M : List Nat) : zz ws (L ++ M) = zz ws L ++ zz ws M := by simp [zz]
theorem zk7 (ws : List Int) (L : List Nat) (p : Nat) : zf0 ws (zaz ws L) p = zaz ws (L ++ [p]) := by
 funext z
 unfold zf0 zaz
 rw [zfl]
 by_cases h : rdN (za ws p) = 0
 · simp [h]
 · simp [h, Bool.or_comm]
theorem zre (L : List Nat) (p : Nat) : (fun i => if i = p then (p : Int) else zcc L i) = zcc (L ++ [p]) := by
 funext i
 unfold zcc
 by_cases h : i = p
 · subst h; simp
 · simp [h]
theorem zn.len {nx : Nat -> Option Nat} {p q : Nat} {L : List Nat} (h : zn nx p q L) : p + L.length <= q := by
 refine zn.ind (motive := fun p L => p + L.length <= q) (by simp) (fun h t ih => ?_) h
 simp
 omega
def zdf (ws : List Int) (sr : Int) (S T : Nat) : Prop := ∃ L, zn (nx1 ws sr) S T L /\ (zz ws L).Nodup
def zds (ws : List Int) (sr : Int) (P T : Nat) (L : List Nat) : Prop := ∃ M, zn (nx1 ws sr) P T M /\ (zz ws (L ++ M)).Nodup
theorem zm6 (ws : List Int) (sr : Int) (T : Nat) (L : List Nat) (h : (zz ws L).Nodup) : zds ws sr T T L := ⟨[], .nil _, by simpa using h⟩
theorem zlj {ws : List Int} {sr : Int} {P T : Nat} {L : List Nat} (h : T < P) : ¬ zds ws sr P T L := fun ⟨M, hM, _⟩ => by have := hM.le; omega
theorem zi8 {ws : List Int} {sr : Int} {L : List Nat} {P : Nat} (h : zcj ws sr (zaz ws L) P) : nx1 ws sr P = some (rdS (za ws P)).toNat := by
 unfold nx1
 rw [if_pos ⟨h.1, h.2.1⟩]
theorem zim {ws : List Int} {sr : Int} {L : List Nat} {P : Nat} (h : zcj ws sr (zaz ws L) P) (hn : (zz ws L).Nodup) : (zz ws (L ++ [P])).Nodup := by
 rw [zfl]
 by_cases h0 : rdN (za ws P) = 0
 · simpa [h0] using hn
 · have := h.2.2 h0
   unfold zaz at this
   rw [if_neg h0, List.nodup_append]
   refine ⟨hn, by simp, ?_⟩
   intro a ha c hc
   simp at hc
   subst hc
   intro e
   subst e
   simp [ha] at this
theorem zlk {ws : List Int} {sr : Int} {P T : Nat} {L : List Nat} (h : zcj ws sr (zaz ws L) P) (hPT : P < T) : zds ws sr P T L ↔ zds ws sr (P + (rdS (za ws P)).toNat + 1) T (L ++ [P]) := by
 constructor
 · rintro ⟨M, hM, hn⟩
   cases M with
   | nil =>
     have hM' : T = P := hM
     omega
   | cons x M =>
     obtain ⟨rfl, s, hs, t⟩ := hM
     rw [zi8 h] at hs
     cases hs
     exact ⟨_, t, by simpa using hn⟩
 · rintro ⟨M, hM, hn⟩
   exact ⟨P :: M, .cons (zi8 h) hM, by simpa using hn⟩
theorem zot {ws : List Int} {sr : Int} {P T : Nat} {L : List Nat} (h : ¬ zcj ws sr (zaz ws L) P) (hPT : P < T) : ¬ zds ws sr P T L := by
 rintro ⟨M, hM, hn⟩
 cases M with
 | nil =>
   have hM' : T = P := hM
   omega
 | cons x M =>
   obtain ⟨rfl, s, hs, t⟩ := hM
   obtain ⟨g1, g2, _⟩ := zc8 hs
   refine h ⟨g1, g2, fun h0 => ?_⟩
   unfold zaz
   apply decide_eq_false
   intro hm
   have e : L ++ P :: M = (L ++ [P]) ++ M := by simp
   rw [e, zew, zfl, if_neg h0] at hn
   have hn2 := (List.nodup_append.1 hn).1
   have := (List.nodup_append.1 hn2).2.2 _ hm _ (List.mem_singleton.2 rfl)
   exact this rfl
theorem zd4 {B b off : Nat} {w W : World} {ws : List Int} (hbB : b < B) (hb : b < w.heap.size) (hc : ∀ i, i < ws.length -> w.cell? ⟨b, off + i, none⟩ = some (.int .u64 (za ws i))) (hB : Below B w W) : b < W.heap.size /\ ∀ i, i < ws.length -> W.cell? ⟨b, off + i, none⟩ = some (.int .u64 (za ws i)) :=
 ⟨Nat.lt_of_lt_of_le hb hB.size, fun i hi => by rw [hB.cell (p := ⟨b, off + i, none⟩) hbB]; exact hc i hi⟩
set_option maxHeartbeats 4000000 in
theorem zee (b off cw : Nat) (ws : List Int) (sm toh top : Int) (cyc : Bool) (sn old cp sr : Int) (ar : Option Addr) (cr : Nat) (rs : List (Int × Int)) (B Bp sv bl cl bs bc : Nat) (vp : Value) (nc : Nat) (hcop : Int -> Bool) (S T : Nat) (w : World) (hS : zy B Bp w sv bl bs bc ws.length #[.slice (some ⟨b, off, none⟩) ws.length cw, .int .i64 sm, .int .i64 toh, .int .i64 top, .bool cyc, .int .i64 sn, .int .i64 old, .int .i64 cp, .int .i64 sr, .slice ar rs.length cr, .slice (some ⟨bl, 0, none⟩) ws.length cl, vp, .map (some bs), .map (some bc)] vp (zcc []) [] 0 nc (zaz ws []) hcop) (hb : b < w.heap.size) (hbB : b < B) (hc : ∀ i, i < ws.length -> w.cell? ⟨b, off + i, none⟩ = some (.int .u64 (za ws i))) (hn : ws.length <= 8000) (hw : zg ws) (t0 : 0 <= toh) (t1 : toh <= 1) (s0 : 256 <= sm) (s1 : sm <= 4000) (hF : toh * sm + 1 = S) (hT : top = T) (hST : S <= T) (hTn : T <= ws.length) :
 Calls Tryz.prog 133 #[.pointer (some ⟨sv, 0, none⟩)] w fun e w' => ∃ q, e = .returned (.bool q) /\ (q = true ↔ zdf ws sr S T) /\ Below B w w' /\ (q = true -> ∃ L vp', zn (nx1 ws sr) S T L /\ (zz ws L).Nodup /\ zy B Bp w' sv bl bs bc ws.length ((fun vp => #[.slice (some ⟨b, off, none⟩) ws.length cw, .int .i64 sm, .int .i64 toh, .int .i64 top, .bool cyc, .int .i64 sn, .int .i64 old, .int .i64 cp, .int .i64 sr, .slice ar rs.length cr, .slice (some ⟨bl, 0, none⟩) ws.length cl, vp, .map (some bs), .map (some bc)]) vp') vp' (zcc L) L L.length nc (zaz ws L) hcop) := by
 have HF : Hid (toh * sm + 1 = (S : Int)) := hF
 have HT : Hid (top = (T : Int)) := hT
 have hBw : B <= w.heap.size := by have := hS.ge; have := hS.lt; have := hS.size; omega
 have hn' : ws.length <= 1048576 := by omega
 have KS := hS.cells
 have lsv := hS.lsv
 have HC : Hid (∀ i, i < ws.length -> w.cell? ⟨b, off + i, none⟩ = some (.int .u64 (za ws i))) := hc
 have KP : ∀ W, Below w.heap.size w W -> (Below w.heap.size w W /\ (∀ i, W.cell? ⟨sv, i, none⟩ = (#[.slice (some ⟨b, off, none⟩) ws.length cw, .int .i64 sm, .int .i64 toh, .int .i64 top, .bool cyc, .int .i64 sn, .int .i64 old, .int .i64 cp, .int .i64 sr, .slice ar rs.length cr, .slice (some ⟨bl, 0, none⟩) ws.length cl, vp, .map (some bs), .map (some bc)] : Array Value)[i]?)) := fun W hW => ⟨hW, ze KS hW lsv⟩
 clear hF hc hT
 go_enter Tryz.func133, Tryz.ntmps133
 go_wp2
 have b1' := (Below.refl w.heap.size w).drew
 go_cut [3] from 4 to 13 (fun s3 wc => s3 = .int .i64 (S : Int) /\ Below w.heap.size w wc)
 case first =>
  go_region_held3 (fun W => Below w.heap.size w W /\ (∀ i, W.cell? ⟨sv, i, none⟩ = (#[.slice (some ⟨b, off, none⟩) ws.length cw, .int .i64 sm, .int .i64 toh, .int .i64 top, .bool cyc, .int .i64 sn, .int .i64 old, .int .i64 cp, .int .i64 sr, .slice ar rs.length cr, .slice (some ⟨bl, 0, none⟩) ws.length cl, vp, .map (some bs), .map (some bc)] : Array Value)[i]?)) (first | exact KP _ (by assumption) | exact KP _ b1') (first | (go_at_call 139; refine (zdu _ _ _ _ _ _ _ _ _ _ _ _ _ _ toh (S : Int) _ t0 t1 s0 s1 HF.out).mono ?_; rintro e w' ⟨rfl, hb⟩; have hB3 := zc (w := w) (And.left (by assumption)) hb; clear hb))
  all_goals (go_wp2_with fail; go_meet; exact ⟨rfl, by assumption⟩)
 case rest =>
  obtain ⟨rfl, hBc⟩ := hcut
  have Sc := hS.below hBc
  have Bc := zap hBc hBw
  clear KP KS b1' hS
  go_wp2
  go_loopw [3] (fun u3 wr => ∃ (P : Nat) (L : List Nat) (vp' : Value), u3 = .int .i64 (P : Int) /\ P <= T + 257 /\ zn (nx1 ws sr) S P L /\ (zz ws L).Nodup /\ (zdf ws sr S T ↔ zds ws sr P T L) /\ zy B Bp wr sv bl bs bc ws.length ((fun vp => #[.slice (some ⟨b, off, none⟩) ws.length cw, .int .i64 sm, .int .i64 toh, .int .i64 top, .bool cyc, .int .i64 sn, .int .i64 old, .int .i64 cp, .int .i64 sr, .slice ar rs.length cr, .slice (some ⟨bl, 0, none⟩) ws.length cl, vp, .map (some bs), .map (some bc)]) vp') vp' (zcc L) L L.length nc (zaz ws L) hcop /\ Below B w wr) (fun u3 _ => T + 300 - (intOf u3).toNat)
  case atStart => exact ⟨S, [], vp, rfl, by omega, .nil _, by simp [zz], by unfold zdf zds; simp, Sc, Bc⟩
  case round =>
   obtain ⟨P, L, vp', rfl, hPT, hCh, hnd, hgo, hR, hB⟩ := hrel
   have HG : Hid (zdf ws sr S T ↔ zds ws sr P T L) := hgo
   have HCH : Hid (zn (nx1 ws sr) S P L) := hCh
   have HND : Hid ((zz ws L).Nodup) := hnd
   have hlen := hCh.len
   clear hgo hCh hnd Sc
   have KR := hR.cells
   have CR := zd4 hbB hb HC.out hB
   have hfr : (fun vp => (#[.slice (some ⟨b, off, none⟩) ws.length cw, .int .i64 sm, .int .i64 toh, .int .i64 top, .bool cyc, .int .i64 sn, .int .i64 old, .int .i64 cp, .int .i64 sr, .slice ar rs.length cr, .slice (some ⟨bl, 0, none⟩) ws.length cl, vp, .map (some bs), .map (some bc)] : Array Value)) vp' = (fun vp => (#[.slice (some ⟨b, off, none⟩) ws.length cw, .int .i64 sm, .int .i64 toh, .int .i64 top, .bool cyc, .int .i64 sn, .int .i64 old, .int .i64 cp, .int .i64 sr, .slice ar rs.length cr, .slice (some ⟨bl, 0, none⟩) ws.length cl, vp, .map (some bs), .map (some bc)] : Array Value)) vp' := rfl
   obtain ⟨vq, hvq⟩ : ∃ vq, vq = vp' := ⟨_, rfl⟩
   subst hvq
   by_cases hlt : P < T
   · have hltd : (P : Int) < top := by rw [HT.out]; omega
     have hPn : P < ws.length := by omega
     by_cases hE : zcj ws sr (zaz ws L) P
     · have hstep := zlk hE hlt
       have HST : Hid (zdf ws sr S T ↔ zds ws sr (P + (rdS (za ws P)).toNat + 1) T (L ++ [P])) := HG.out.trans hstep
       have HCN : Hid (zn (nx1 ws sr) S (P + (rdS (za ws P)).toNat + 1) (L ++ [P])) := HCH.out.snoc (zi8 hE)
       have HNN : Hid ((zz ws (L ++ [P])).Nodup) := zim hE HND.out
       have HE : Hid (zcj ws sr (zaz ws L) P) := hE
       have hsb := zau (za ws P)
       clear hE hstep
       go_wp2_with (first | (go_at_call 166; refine (zg7 b off cw ws sm toh top cyc sn old cp sr ar cr rs B Bp sv bl cl bs bc _ (zcc L) L L.length nc (zaz ws L) hcop _ P _ hR CR.1 hbB CR.2 hn' hw (by omega) (by omega) rfl hPn).mono ?_; rintro e w4 ⟨q, rfl, hq, b4, _, s4⟩; obtain rfl : q = true := hq.2 HE.out; clear hq; obtain ⟨v4, S4⟩ := s4 rfl; rw [zre, zk7] at S4; have hB4 := hB.trans b4; have C4 := zd4 hbB hb HC.out hB4) | (go_at_call 167; refine (zh9 b off cw ws sm toh top cyc sn old cp sr ar cr rs sv bl cl bs bc v4 (zcc (L ++ [P])) _ P P _ S4.lsv S4.cells S4.lbl S4.leads C4.1 C4.2 hn' hw rfl hPn (by simp [zcc]) hPn).mono ?_; rintro e w5 ⟨rfl, b5⟩; have S5 := S4.below b5; have hB5 : Below B w w5 := hB4.trans (zap b5 (by have := S4.size; have := S4.lt; have := S4.ge; omega))))
       have eP : (P : Int) + (rdS (za ws P) + 1) = ((P + (rdS (za ws P)).toNat + 1 : Nat) : Int) := by omega
       first
        | (refine ⟨⟨P + (rdS (za ws P)).toNat + 1, L ++ [P], v4, by rw [<- eP], by omega, HCN.out, HNN.out, HST.out, by simpa using S5, hB5⟩, by simp [intOf]; omega⟩)
        | (go_roundw
           case rel => exact ⟨P + (rdS (za ws P)).toNat + 1, L ++ [P], v4, by rw [<- eP], by omega, HCN.out, HNN.out, HST.out, by simpa using S5, hB5⟩
           case measure => simp [intOf]; omega)
     · have HNO : Hid (¬ zdf ws sr S T) := fun g => zot hE hlt (HG.out.1 g)
       have HE : Hid (¬ zcj ws sr (zaz ws L) P) := hE
       clear hE
       go_wp2_with (go_at_call 166; refine (zg7 b off cw ws sm toh top cyc sn old cp sr ar cr rs B Bp sv bl cl bs bc _ (zcc L) L L.length nc (zaz ws L) hcop _ P _ hR CR.1 hbB CR.2 hn' hw (by omega) (by omega) rfl hPn).mono ?_; rintro e w4 ⟨q, rfl, hq, b4, _, s4⟩; obtain rfl : q = false := (by cases q with | false => rfl | true => exact absurd (hq.1 rfl) HE.out); clear hq s4)
       go_ret
       exact ⟨false, rfl, ⟨fun g => by simp at g, fun g => absurd g HNO.out⟩, hB.trans b4, fun g => by simp at g⟩
   · by_cases he : P = T
     · have hed : decide ((P : Int) < top) = false := decide_eq_false (by rw [HT.out]; omega)
       have heq : ((P : Int) == top) = true := by rw [HT.out]; simp; omega
       have HGG : Hid (zdf ws sr S T) := HG.out.2 (by rw [he]; exact zm6 _ _ _ _ HND.out)
       have HCT : Hid (zn (nx1 ws sr) S T L) := by show zn (nx1 ws sr) S T L; rw [<- he]; exact HCH.out
       clear he hlt
       go_wp2
       go_ret
       first
        | exact ⟨true, rfl, ⟨fun _ => HGG.out, fun _ => rfl⟩, hB, fun _ => ⟨L, _, HCT.out, HND.out, hR⟩⟩
        | exact Or.inr ⟨rfl, HGG.out, hB, L, HCT.out, HND.out, _, hR⟩
        | exact Or.inr ⟨rfl, HGG.out, hB, L, _, HCT.out, HND.out, hR⟩
     · have hed : decide ((P : Int) < top) = false := decide_eq_false (by rw [HT.out]; omega)
       have heq : ((P : Int) == top) = false := by rw [HT.out]; simp; omega
       have HNO : Hid (¬ zdf ws sr S T) := fun g => zlj (by omega) (HG.out.1 g)
       clear he hlt
       go_wp2
       go_ret
       first
        | exact ⟨false, rfl, ⟨fun g => by simp at g, fun g => absurd g HNO.out⟩, hB, fun g => by simp at g⟩
        | exact Or.inl ⟨rfl, HNO.out, hB⟩
end Go.Proofs.YtaapiedminakcaaGreat
