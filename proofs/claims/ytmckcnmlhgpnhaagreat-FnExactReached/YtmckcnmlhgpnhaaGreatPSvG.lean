/- - -/
import Derived.Test.YtmckcnmlhgpnhaaGreatPSvC
import Derived.Test.YtmckcnmlhgpnhaaGreatPOkA
namespace Go.Proofs.YtmckcnmlhgpnhaaGreat
set_option maxRecDepth 20000
open Go.RowKit Go.Maps
set_option linter.unusedSimpArgs false
set_option linter.unusedVariables false
def zbq (F top : Int) (lead : Nat -> Int) (x : Int) : Bool := decide (F <= x /\ x < top) && (lead x.toNat == x)
def zcw (ws : List Int) (F top : Int) (lead : Nat -> Int) (hcop : Int -> Bool) (p : Nat) : Prop := zb0 (za ws p) = true /\ zbq F top lead (fwP (za ws p)) = true /\ hcop (fwP (za ws p)) = false
theorem zi1 (x : Int) : 0 <= fwP x /\ fwP x <= 2147483647 := by
 unfold fwP
 split
 · rename_i h
   have := of_decide_eq_true h
   omega
 · omega
theorem zfm (x Y : Int) (w : World) (h0 : 0 <= x) (h1 : x < 18446744073709551616) (hY : fwP x = Y) :
 Calls Tryz.prog 158 #[.int .u64 x] w fun e w' => e = .returned (.tuple #[.int .i64 Y, .bool (zb0 x)]) /\ w = w' := by
 subst hY; exact (zcz x w h0 h1).mono fun e w' g => ⟨g.1, g.2.symm⟩
set_option maxHeartbeats 2000000 in
theorem zra (b off cw : Nat) (ws : List Int) (smz toh top : Int) (cyc : Bool) (sn old cpz sr : Int) (ar : Option Addr) (cr : Nat) (rs : List (Int × Int)) (sv bl cl bs bc : Nat) (vp : Value) (lead : Nat -> Int) (x F : Int) (p : Nat) (w : World) (lsv : sv < w.heap.size) (KS : ∀ i, w.cell? ⟨sv, i, none⟩ = (#[.slice (some ⟨b, off, none⟩) ws.length cw, .int .i64 smz, .int .i64 toh, .int .i64 top, .bool cyc, .int .i64 sn, .int .i64 old, .int .i64 cpz, .int .i64 sr, .slice ar rs.length cr, .slice (some ⟨bl, 0, none⟩) ws.length cl, vp, .map (some bs), .map (some bc)] : Array Value)[i]?) (lbl : bl < w.heap.size) (hl : ∀ i, i < ws.length -> w.cell? ⟨bl, i, none⟩ = some (.int .i64 (lead i))) (hb : b < w.heap.size) (hc : ∀ i, i < ws.length -> w.cell? ⟨b, off + i, none⟩ = some (.int .u64 (za ws i))) (hn : ws.length <= 1048576) (hw : zi ws) (t0 : 0 <= toh) (t1 : toh <= 1) (s0 : 256 <= smz) (s1 : smz <= 4000) (hF : toh * smz + 1 = F) (hT : top <= ws.length) (hx : x = p) (hp : p < ws.length) (h : ¬ (zb0 (za ws p) = true /\ zbq F top lead (fwP (za ws p)) = true)) :
 Calls Tryz.prog 195 #[.pointer (some ⟨sv, 0, none⟩), .int .i64 x] w fun e w' => e = .returned (.bool false) /\ Below w.heap.size w w' := by
 have x0 : 0 <= x := by omega
 have x1 : x < (ws.length : Int) := by omega
 have x2 : x.toNat = p := by omega
 have hwp := zu hw p
 have hcp := hc p hp
 have HF : Hid (toh * smz + 1 = F) := hF
 have HL : Hid (∀ i, i < ws.length -> w.cell? ⟨bl, i, none⟩ = some (.int .i64 (lead i))) := hl
 have HC : Hid (∀ i, i < ws.length -> w.cell? ⟨b, off + i, none⟩ = some (.int .u64 (za ws i))) := hc
 clear hx hl hc hF
 cases ho : zb0 (za ws p) with
 | false =>
   clear h
   go_enter Tryz.func195, Tryz.ntmps195
   go_wp2_with (go_at_call 158; refine (zcz _ _ hwp.1 hwp.2).mono ?_; rw [ho]; rintro e w1 ⟨rfl, rfl⟩)
   go_ret
   exact ⟨rfl, Below.refl _ _⟩
 | true =>
   have hst : (decide (F <= fwP (za ws p) /\ fwP (za ws p) < top) && (lead (fwP (za ws p)).toNat == fwP (za ws p))) = false := by
    rw [<- Bool.not_eq_true]; exact fun g => h ⟨ho, g⟩
   clear h
   generalize hYe : fwP (za ws p) = Y at *
   have HY : Hid (fwP (za ws p) = Y) := hYe
   clear hYe
   go_enter Tryz.func195, Tryz.ntmps195
   go_wp2_with (first | (go_at_call 158; refine (zfm (za ws p) Y _ hwp.1 hwp.2 HY.out).mono ?_; rw [ho]; rintro e w1 ⟨rfl, rfl⟩) | (go_at_call 165; refine (zck b off cw ws smz toh top cyc sn old cpz sr ar cr rs sv bl cl bs bc vp lead Y F _ lsv KS lbl HL.out hb HC.out hn hw t0 t1 s0 s1 HF.out hT).mono ?_; rw [hst]; rintro e w2 ⟨rfl, b2⟩))
   go_ret
   exact ⟨rfl, b2⟩
set_option maxHeartbeats 2000000 in
theorem zrb (b off cw : Nat) (ws : List Int) (smz toh top : Int) (cyc : Bool) (sn old cpz sr : Int) (ar : Option Addr) (cr : Nat) (rs : List (Int × Int)) (B Bp sv bl cl bs bc : Nat) (vp : Value) (lead : Nat -> Int) (pl : List Nat) (ns nc : Nat) (hser hcop : Int -> Bool) (x F Y : Int) (p : Nat) (w : World) (hS : zv B Bp w sv bl bs bc ws.length #[.slice (some ⟨b, off, none⟩) ws.length cw, .int .i64 smz, .int .i64 toh, .int .i64 top, .bool cyc, .int .i64 sn, .int .i64 old, .int .i64 cpz, .int .i64 sr, .slice ar rs.length cr, .slice (some ⟨bl, 0, none⟩) ws.length cl, vp, .map (some bs), .map (some bc)] vp lead pl ns nc hser hcop) (hb : b < w.heap.size) (hbB : b < B) (hc : ∀ i, i < ws.length -> w.cell? ⟨b, off + i, none⟩ = some (.int .u64 (za ws i))) (hn : ws.length <= 1048576) (hw : zi ws) (hnc : nc <= 10000) (t0 : 0 <= toh) (t1 : toh <= 1) (s0 : 256 <= smz) (s1 : smz <= 4000) (hF : toh * smz + 1 = F) (hT : top <= ws.length) (hx : x = p) (hp : p < ws.length) (ho : zb0 (za ws p) = true) (hY : fwP (za ws p) = Y) (hst : (decide (F <= Y /\ Y < top) && (lead Y.toNat == Y)) = true) :
 Calls Tryz.prog 195 #[.pointer (some ⟨sv, 0, none⟩), .int .i64 x] w fun e w' => (hcop Y = true /\ e = .returned (.bool false) /\ Below w.heap.size w w') \/ (hcop Y = false /\ e = .returned (.bool true) /\ Below B w w' /\ zv B Bp w' sv bl bs bc ws.length #[.slice (some ⟨b, off, none⟩) ws.length cw, .int .i64 smz, .int .i64 toh, .int .i64 top, .bool cyc, .int .i64 sn, .int .i64 old, .int .i64 cpz, .int .i64 sr, .slice ar rs.length cr, .slice (some ⟨bl, 0, none⟩) ws.length cl, vp, .map (some bs), .map (some bc)] vp (fun i => if i = p then Y else lead i) pl ns (nc + 1) hser (fun z => decide (z = Y) || hcop z)) := by
 have x0 : 0 <= x := by omega
 have x1 : x < (ws.length : Int) := by omega
 have x2 : x.toNat = p := by omega
 have hwp := zu hw p
 have hcp := hc p hp
 have hYb := zi1 (za ws p)
 rw [hY] at hYb
 have HF : Hid (toh * smz + 1 = F) := hF
 have HY : Hid (fwP (za ws p) = Y) := hY
 have HC : Hid (∀ i, i < ws.length -> w.cell? ⟨b, off + i, none⟩ = some (.int .u64 (za ws i))) := hc
 have KS := hS.cells
 have lsv := hS.lsv
 have hge := hS.ge
 have hsz := hS.size
 have hslt := hS.lt
 have wfY : (Lit.int .i64 Y).wf = true := wfI (by omega) (by omega)
 have wfx : (Lit.int .i64 x).wf = true := wfI (by omega) (by omega)
 clear hx hc hF hY
 go_enter Tryz.func195, Tryz.ntmps195
 go_upto_region 4 with (first | (go_at_call 158; refine (zfm (za ws p) Y _ hwp.1 hwp.2 HY.out).mono ?_; rw [ho]; rintro e w1 ⟨rfl, rfl⟩) | (go_at_call 165; refine (zck b off cw ws smz toh top cyc sn old cpz sr ar cr rs sv bl cl bs bc vp lead Y F _ lsv KS hS.lbl hS.leads hb HC.out hn hw t0 t1 s0 s1 HF.out hT).mono ?_; rw [hst]; rintro e w2 ⟨rfl, b2⟩))
 have S2 := hS.below b2
 have KS2 := S2.cells
 obtain ⟨c, hlk⟩ := S2.cop.look wfY
 clear KS hcp
 cases hd : hcop Y with
 | true =>
   rw [hd] at hlk
   go_wp2
   go_ret
   exact .inl ⟨hd, rfl, b2⟩
 | false =>
   rw [hd] at hlk
   obtain ⟨w3, hup, hm3, hg3⟩ := S2.cop.put (by omega) wfY wfx
   have S3 := S2.putCop hm3 hg3
   have KS3 := S3.cells
   have q3 : w3.cell? ⟨bl, p, none⟩ = some (.int .i64 (lead p)) := S3.leads p hp
   have f3 := S3.row.frozen p
   have B3 : Below B w w3 := (zan b2 (by omega)).trans ((zhw hg3).below (C := B) (by omega) (by have := b2.size; omega))
   go_wp2
   go_ret
   exact .inr ⟨hd, rfl, B3.setCell (p := ⟨bl, p, none⟩) (by show B <= bl; omega) _, S3.setLead p Y⟩
theorem zg9 (b off cw : Nat) (ws : List Int) (smz toh top : Int) (cyc : Bool) (sn old cpz sr : Int) (ar : Option Addr) (cr : Nat) (rs : List (Int × Int)) (B Bp sv bl cl bs bc : Nat) (vp : Value) (lead : Nat -> Int) (pl : List Nat) (ns nc : Nat) (hser hcop : Int -> Bool) (x F : Int) (p : Nat) (w : World) (hS : zv B Bp w sv bl bs bc ws.length #[.slice (some ⟨b, off, none⟩) ws.length cw, .int .i64 smz, .int .i64 toh, .int .i64 top, .bool cyc, .int .i64 sn, .int .i64 old, .int .i64 cpz, .int .i64 sr, .slice ar rs.length cr, .slice (some ⟨bl, 0, none⟩) ws.length cl, vp, .map (some bs), .map (some bc)] vp lead pl ns nc hser hcop) (hb : b < w.heap.size) (hbB : b < B) (hc : ∀ i, i < ws.length -> w.cell? ⟨b, off + i, none⟩ = some (.int .u64 (za ws i))) (hn : ws.length <= 1048576) (hw : zi ws) (hnc : nc <= 10000) (t0 : 0 <= toh) (t1 : toh <= 1) (s0 : 256 <= smz) (s1 : smz <= 4000) (hF : toh * smz + 1 = F) (hT : top <= ws.length) (hx : x = p) (hp : p < ws.length) :
 Calls Tryz.prog 195 #[.pointer (some ⟨sv, 0, none⟩), .int .i64 x] w fun e w' => (¬ zcw ws F top lead hcop p /\ e = .returned (.bool false) /\ Below w.heap.size w w') \/ (zcw ws F top lead hcop p /\ e = .returned (.bool true) /\ Below B w w' /\ zv B Bp w' sv bl bs bc ws.length #[.slice (some ⟨b, off, none⟩) ws.length cw, .int .i64 smz, .int .i64 toh, .int .i64 top, .bool cyc, .int .i64 sn, .int .i64 old, .int .i64 cpz, .int .i64 sr, .slice ar rs.length cr, .slice (some ⟨bl, 0, none⟩) ws.length cl, vp, .map (some bs), .map (some bc)] vp (fun i => if i = p then fwP (za ws p) else lead i) pl ns (nc + 1) hser (fun z => decide (z = fwP (za ws p)) || hcop z)) := by
 by_cases h : zb0 (za ws p) = true /\ zbq F top lead (fwP (za ws p)) = true
 · refine (zrb b off cw ws smz toh top cyc sn old cpz sr ar cr rs B Bp sv bl cl bs bc vp lead pl ns nc hser hcop x F _ p w hS hb hbB hc hn hw hnc t0 t1 s0 s1 hF hT hx hp h.1 rfl h.2).mono ?_
   rintro e w' (⟨hd, r⟩ | ⟨hd, r⟩)
   · exact .inl ⟨fun g => by have := g.2.2; rw [hd] at this; simp at this, r⟩
   · exact .inr ⟨⟨h.1, h.2, hd⟩, r⟩
 · refine (zra b off cw ws smz toh top cyc sn old cpz sr ar cr rs sv bl cl bs bc vp lead x F p w hS.lsv hS.cells hS.lbl hS.leads hb hc hn hw t0 t1 s0 s1 hF hT hx hp h).mono ?_
   rintro e w' r
   exact .inl ⟨fun g => h ⟨g.1, g.2.1⟩, r⟩
def zx (ws : List Int) (L : List Nat) : List Int := (L.map fun p => rdN (za ws p)).filter (fun z => decide (z ≠ 0))
def zav (ws : List Int) (L : List Nat) (z : Int) : Bool := decide (z ∈ zx ws L)
def zb4 (L : List Nat) (i : Nat) : Int := if i ∈ L then (i : Int) else 0
theorem ze8 (ws : List Int) (L : List Nat) (p : Nat) : zx ws (L ++ [p]) = zx ws L ++ (if rdN (za ws p) = 0 then [] else [rdN (za ws p)]) := by
 by_cases h : rdN (za ws p) = 0 <;> simp [zx, h]
theorem zeh (ws : List Int) (L M : List Nat) : zx ws (L ++ M) = zx ws L ++ zx ws M := by simp [zx]
theorem zj3 (ws : List Int) (L : List Nat) (p : Nat) : zfn ws (zav ws L) p = zav ws (L ++ [p]) := by
 funext z
 unfold zfn zav
 rw [ze8]
 by_cases h : rdN (za ws p) = 0
 · simp [h]
 · simp [h, Bool.or_comm]
theorem zpj (L : List Nat) (p : Nat) : (fun i => if i = p then (p : Int) else zb4 L i) = zb4 (L ++ [p]) := by
 funext i
 unfold zb4
 by_cases h : i = p
 · subst h; simp
 · simp [h]
theorem zn.len {nx : Nat -> Option Nat} {p q : Nat} {L : List Nat} (h : zn nx p q L) : p + L.length <= q := by
 refine zn.ind (motive := fun p L => p + L.length <= q) (by simp) (fun h t ih => ?_) h
 simp
 omega
def zc5 (ws : List Int) (sr : Int) (S T : Nat) : Prop := ∃ L, zn (nx1 ws sr) S T L /\ (zx ws L).Nodup
def zdg (ws : List Int) (sr : Int) (P T : Nat) (L : List Nat) : Prop := ∃ M, zn (nx1 ws sr) P T M /\ (zx ws (L ++ M)).Nodup
theorem zlp (ws : List Int) (sr : Int) (T : Nat) (L : List Nat) (h : (zx ws L).Nodup) : zdg ws sr T T L := ⟨[], .nil _, by simpa using h⟩
theorem zke {ws : List Int} {sr : Int} {P T : Nat} {L : List Nat} (h : T < P) : ¬ zdg ws sr P T L := fun ⟨M, hM, _⟩ => by have := hM.le; omega
theorem zig {ws : List Int} {sr : Int} {L : List Nat} {P : Nat} (h : zb8 ws sr (zav ws L) P) : nx1 ws sr P = some (rdS (za ws P)).toNat := by
 unfold nx1
 rw [if_pos ⟨h.1, h.2.1⟩]
theorem zhv {ws : List Int} {sr : Int} {L : List Nat} {P : Nat} (h : zb8 ws sr (zav ws L) P) (hn : (zx ws L).Nodup) : (zx ws (L ++ [P])).Nodup := by
 rw [ze8]
 by_cases h0 : rdN (za ws P) = 0
 · simpa [h0] using hn
 · have := h.2.2 h0
   unfold zav at this
   rw [if_neg h0, List.nodup_append]
   refine ⟨hn, by simp, ?_⟩
   intro a ha c hc
   simp at hc
   subst hc
   intro e
   subst e
   simp [ha] at this
theorem zkf {ws : List Int} {sr : Int} {P T : Nat} {L : List Nat} (h : zb8 ws sr (zav ws L) P) (hPT : P < T) : zdg ws sr P T L ↔ zdg ws sr (P + (rdS (za ws P)).toNat + 1) T (L ++ [P]) := by
 constructor
 · rintro ⟨M, hM, hn⟩
   cases M with
   | nil =>
     have hM' : T = P := hM
     omega
   | cons x M =>
     obtain ⟨rfl, s, hs, t⟩ := hM
     rw [zig h] at hs
     cases hs
     exact ⟨_, t, by simpa using hn⟩
 · rintro ⟨M, hM, hn⟩
   exact ⟨P :: M, .cons (zig h) hM, by simpa using hn⟩
theorem zm6 {ws : List Int} {sr : Int} {P T : Nat} {L : List Nat} (h : ¬ zb8 ws sr (zav ws L) P) (hPT : P < T) : ¬ zdg ws sr P T L := by
 rintro ⟨M, hM, hn⟩
 cases M with
 | nil =>
   have hM' : T = P := hM
   omega
 | cons x M =>
   obtain ⟨rfl, s, hs, t⟩ := hM
   obtain ⟨g1, g2, _⟩ := zdc hs
   refine h ⟨g1, g2, fun h0 => ?_⟩
   unfold zav
   apply decide_eq_false
   intro hm
   have e : L ++ P :: M = (L ++ [P]) ++ M := by simp
   rw [e, zeh, ze8, if_neg h0] at hn
   have hn2 := (List.nodup_append.1 hn).1
   have := (List.nodup_append.1 hn2).2.2 _ hm _ (List.mem_singleton.2 rfl)
   exact this rfl
theorem zdu {B b off : Nat} {w W : World} {ws : List Int} (hbB : b < B) (hb : b < w.heap.size) (hc : ∀ i, i < ws.length -> w.cell? ⟨b, off + i, none⟩ = some (.int .u64 (za ws i))) (hB : Below B w W) : b < W.heap.size /\ ∀ i, i < ws.length -> W.cell? ⟨b, off + i, none⟩ = some (.int .u64 (za ws i)) :=
 ⟨Nat.lt_of_lt_of_le hb hB.size, fun i hi => by rw [hB.cell (p := ⟨b, off + i, none⟩) hbB]; exact hc i hi⟩
set_option maxHeartbeats 4000000 in
theorem zd2 (b off cw : Nat) (ws : List Int) (smz toh top : Int) (cyc : Bool) (sn old cpz sr : Int) (ar : Option Addr) (cr : Nat) (rs : List (Int × Int)) (B Bp sv bl cl bs bc : Nat) (vp : Value) (nc : Nat) (hcop : Int -> Bool) (S T : Nat) (w : World) (hS : zv B Bp w sv bl bs bc ws.length #[.slice (some ⟨b, off, none⟩) ws.length cw, .int .i64 smz, .int .i64 toh, .int .i64 top, .bool cyc, .int .i64 sn, .int .i64 old, .int .i64 cpz, .int .i64 sr, .slice ar rs.length cr, .slice (some ⟨bl, 0, none⟩) ws.length cl, vp, .map (some bs), .map (some bc)] vp (zb4 []) [] 0 nc (zav ws []) hcop) (hb : b < w.heap.size) (hbB : b < B) (hc : ∀ i, i < ws.length -> w.cell? ⟨b, off + i, none⟩ = some (.int .u64 (za ws i))) (hn : ws.length <= 8000) (hw : zi ws) (t0 : 0 <= toh) (t1 : toh <= 1) (s0 : 256 <= smz) (s1 : smz <= 4000) (hF : toh * smz + 1 = S) (hT : top = T) (hST : S <= T) (hTn : T <= ws.length) :
 Calls Tryz.prog 132 #[.pointer (some ⟨sv, 0, none⟩)] w fun e w' => ∃ q, e = .returned (.bool q) /\ (q = true ↔ zc5 ws sr S T) /\ Below B w w' /\ (q = true -> ∃ L vp', zn (nx1 ws sr) S T L /\ (zx ws L).Nodup /\ zv B Bp w' sv bl bs bc ws.length ((fun vp => #[.slice (some ⟨b, off, none⟩) ws.length cw, .int .i64 smz, .int .i64 toh, .int .i64 top, .bool cyc, .int .i64 sn, .int .i64 old, .int .i64 cpz, .int .i64 sr, .slice ar rs.length cr, .slice (some ⟨bl, 0, none⟩) ws.length cl, vp, .map (some bs), .map (some bc)]) vp') vp' (zb4 L) L L.length nc (zav ws L) hcop) := by
 have HF : Hid (toh * smz + 1 = (S : Int)) := hF
 have HT : Hid (top = (T : Int)) := hT
 have hBw : B <= w.heap.size := by have := hS.ge; have := hS.lt; have := hS.size; omega
 have hn' : ws.length <= 1048576 := by omega
 have KS := hS.cells
 have lsv := hS.lsv
 have HC : Hid (∀ i, i < ws.length -> w.cell? ⟨b, off + i, none⟩ = some (.int .u64 (za ws i))) := hc
 have KP : ∀ W, Below w.heap.size w W -> (Below w.heap.size w W /\ (∀ i, W.cell? ⟨sv, i, none⟩ = (#[.slice (some ⟨b, off, none⟩) ws.length cw, .int .i64 smz, .int .i64 toh, .int .i64 top, .bool cyc, .int .i64 sn, .int .i64 old, .int .i64 cpz, .int .i64 sr, .slice ar rs.length cr, .slice (some ⟨bl, 0, none⟩) ws.length cl, vp, .map (some bs), .map (some bc)] : Array Value)[i]?)) := fun W hW => ⟨hW, ze KS hW lsv⟩
 clear hF hc hT
 go_enter Tryz.func132, Tryz.ntmps132
 go_wp2
 have b1' := (Below.refl w.heap.size w).drew
 go_cut [3] from 4 to 13 (fun s3 wc => s3 = .int .i64 (S : Int) /\ Below w.heap.size w wc)
 case first =>
  go_region_held3 (fun W => Below w.heap.size w W /\ (∀ i, W.cell? ⟨sv, i, none⟩ = (#[.slice (some ⟨b, off, none⟩) ws.length cw, .int .i64 smz, .int .i64 toh, .int .i64 top, .bool cyc, .int .i64 sn, .int .i64 old, .int .i64 cpz, .int .i64 sr, .slice ar rs.length cr, .slice (some ⟨bl, 0, none⟩) ws.length cl, vp, .map (some bs), .map (some bc)] : Array Value)[i]?)) (first | exact KP _ (by assumption) | exact KP _ b1') (first | (go_at_call 62; refine (zdi _ _ _ _ _ _ _ _ _ _ _ _ _ _ toh (S : Int) _ t0 t1 s0 s1 HF.out).mono ?_; rintro e w' ⟨rfl, hb⟩; have hB3 := zc (w := w) (And.left (by assumption)) hb; clear hb))
  all_goals (go_wp2_with fail; go_meet; exact ⟨rfl, by assumption⟩)
 case rest =>
  obtain ⟨rfl, hBc⟩ := hcut
  have Sc := hS.below hBc
  have Bc := zan hBc hBw
  clear KP KS b1' hS
  go_wp2
  go_loopw [3] (fun u3 wr => ∃ (P : Nat) (L : List Nat) (vp' : Value), u3 = .int .i64 (P : Int) /\ P <= T + 257 /\ zn (nx1 ws sr) S P L /\ (zx ws L).Nodup /\ (zc5 ws sr S T ↔ zdg ws sr P T L) /\ zv B Bp wr sv bl bs bc ws.length ((fun vp => #[.slice (some ⟨b, off, none⟩) ws.length cw, .int .i64 smz, .int .i64 toh, .int .i64 top, .bool cyc, .int .i64 sn, .int .i64 old, .int .i64 cpz, .int .i64 sr, .slice ar rs.length cr, .slice (some ⟨bl, 0, none⟩) ws.length cl, vp, .map (some bs), .map (some bc)]) vp') vp' (zb4 L) L L.length nc (zav ws L) hcop /\ Below B w wr) (fun u3 _ => T + 300 - (intOf u3).toNat)
  case atStart => exact ⟨S, [], vp, rfl, by omega, .nil _, by simp [zx], by unfold zc5 zdg; simp, Sc, Bc⟩
  case round =>
   obtain ⟨P, L, vp', rfl, hPT, hCh, hnd, hgo, hR, hB⟩ := hrel
   have HG : Hid (zc5 ws sr S T ↔ zdg ws sr P T L) := hgo
   have HCH : Hid (zn (nx1 ws sr) S P L) := hCh
   have HND : Hid ((zx ws L).Nodup) := hnd
   have hlen := hCh.len
   clear hgo hCh hnd Sc
   have KR := hR.cells
   have CR := zdu hbB hb HC.out hB
   have hfr : (fun vp => (#[.slice (some ⟨b, off, none⟩) ws.length cw, .int .i64 smz, .int .i64 toh, .int .i64 top, .bool cyc, .int .i64 sn, .int .i64 old, .int .i64 cpz, .int .i64 sr, .slice ar rs.length cr, .slice (some ⟨bl, 0, none⟩) ws.length cl, vp, .map (some bs), .map (some bc)] : Array Value)) vp' = (fun vp => (#[.slice (some ⟨b, off, none⟩) ws.length cw, .int .i64 smz, .int .i64 toh, .int .i64 top, .bool cyc, .int .i64 sn, .int .i64 old, .int .i64 cpz, .int .i64 sr, .slice ar rs.length cr, .slice (some ⟨bl, 0, none⟩) ws.length cl, vp, .map (some bs), .map (some bc)] : Array Value)) vp' := rfl
   obtain ⟨vq, hvq⟩ : ∃ vq, vq = vp' := ⟨_, rfl⟩
   subst hvq
   by_cases hlt : P < T
   · have hltd : (P : Int) < top := by rw [HT.out]; omega
     have hPn : P < ws.length := by omega
     by_cases hE : zb8 ws sr (zav ws L) P
     · have hstep := zkf hE hlt
       have HST : Hid (zc5 ws sr S T ↔ zdg ws sr (P + (rdS (za ws P)).toNat + 1) T (L ++ [P])) := HG.out.trans hstep
       have HCN : Hid (zn (nx1 ws sr) S (P + (rdS (za ws P)).toNat + 1) (L ++ [P])) := HCH.out.snoc (zig hE)
       have HNN : Hid ((zx ws (L ++ [P])).Nodup) := zhv hE HND.out
       have HE : Hid (zb8 ws sr (zav ws L) P) := hE
       have hsb := zaw (za ws P)
       clear hE hstep
       go_wp2_with (first | (go_at_call 163; refine (zgq b off cw ws smz toh top cyc sn old cpz sr ar cr rs B Bp sv bl cl bs bc _ (zb4 L) L L.length nc (zav ws L) hcop _ P _ hR CR.1 hbB CR.2 hn' hw (by omega) (by omega) rfl hPn).mono ?_; rintro e w4 ⟨q, rfl, hq, b4, _, s4⟩; obtain rfl : q = true := hq.2 HE.out; clear hq; obtain ⟨v4, S4⟩ := s4 rfl; rw [zpj, zj3] at S4; have hB4 := hB.trans b4; have C4 := zdu hbB hb HC.out hB4) | (go_at_call 164; refine (zhj b off cw ws smz toh top cyc sn old cpz sr ar cr rs sv bl cl bs bc v4 (zb4 (L ++ [P])) _ P P _ S4.lsv S4.cells S4.lbl S4.leads C4.1 C4.2 hn' hw rfl hPn (by simp [zb4]) hPn).mono ?_; rintro e w5 ⟨rfl, b5⟩; have S5 := S4.below b5; have hB5 : Below B w w5 := hB4.trans (zan b5 (by have := S4.size; have := S4.lt; have := S4.ge; omega))))
       have eP : (P : Int) + (rdS (za ws P) + 1) = ((P + (rdS (za ws P)).toNat + 1 : Nat) : Int) := by omega
       first
        | (refine ⟨⟨P + (rdS (za ws P)).toNat + 1, L ++ [P], v4, by rw [<- eP], by omega, HCN.out, HNN.out, HST.out, by simpa using S5, hB5⟩, by simp [intOf]; omega⟩)
        | (go_roundw
           case rel => exact ⟨P + (rdS (za ws P)).toNat + 1, L ++ [P], v4, by rw [<- eP], by omega, HCN.out, HNN.out, HST.out, by simpa using S5, hB5⟩
           case measure => simp [intOf]; omega)
     · have HNO : Hid (¬ zc5 ws sr S T) := fun g => zm6 hE hlt (HG.out.1 g)
       have HE : Hid (¬ zb8 ws sr (zav ws L) P) := hE
       clear hE
       go_wp2_with (go_at_call 163; refine (zgq b off cw ws smz toh top cyc sn old cpz sr ar cr rs B Bp sv bl cl bs bc _ (zb4 L) L L.length nc (zav ws L) hcop _ P _ hR CR.1 hbB CR.2 hn' hw (by omega) (by omega) rfl hPn).mono ?_; rintro e w4 ⟨q, rfl, hq, b4, _, s4⟩; obtain rfl : q = false := (by cases q with | false => rfl | true => exact absurd (hq.1 rfl) HE.out); clear hq s4)
       go_ret
       exact ⟨false, rfl, ⟨fun g => by simp at g, fun g => absurd g HNO.out⟩, hB.trans b4, fun g => by simp at g⟩
   · by_cases he : P = T
     · have hed : decide ((P : Int) < top) = false := decide_eq_false (by rw [HT.out]; omega)
       have heq : ((P : Int) == top) = true := by rw [HT.out]; simp; omega
       have HGG : Hid (zc5 ws sr S T) := HG.out.2 (by rw [he]; exact zlp _ _ _ _ HND.out)
       have HCT : Hid (zn (nx1 ws sr) S T L) := by show zn (nx1 ws sr) S T L; rw [<- he]; exact HCH.out
       clear he hlt
       go_wp2
       go_ret
       first
        | exact ⟨true, rfl, ⟨fun _ => HGG.out, fun _ => rfl⟩, hB, fun _ => ⟨L, _, HCT.out, HND.out, hR⟩⟩
        | exact Or.inr ⟨rfl, HGG.out, hB, L, HCT.out, HND.out, _, hR⟩
        | exact Or.inr ⟨rfl, HGG.out, hB, L, _, HCT.out, HND.out, hR⟩
     · have hed : decide ((P : Int) < top) = false := decide_eq_false (by rw [HT.out]; omega)
       have heq : ((P : Int) == top) = false := by rw [HT.out]; simp; omega
       have HNO : Hid (¬ zc5 ws sr S T) := fun g => zke (by omega) (HG.out.1 g)
       clear he hlt
       go_wp2
       go_ret
       first
        | exact ⟨false, rfl, ⟨fun g => by simp at g, fun g => absurd g HNO.out⟩, hB, fun g => by simp at g⟩
        | exact Or.inl ⟨rfl, HNO.out, hB⟩
def zl (ws : List Int) (O : List Nat) : List Nat := O.filter (fun p => !zao ws p)
def zm (ws : List Int) (L O : List Nat) (i : Nat) : Int := if i ∈ O then (if zao ws i = true then fwP (za ws i) else (i : Int)) else zb4 L i
def zbf (ws : List Int) (O : List Nat) (z : Int) : Bool := decide (z ∈ (tgs ws O).map (fun q : Nat => (q : Int)))
theorem zns {ws : List Int} {O : List Nat} {p : Nat} (h : zao ws p = true) : zl ws (O ++ [p]) = zl ws O := by simp [zl, h]
theorem znt {ws : List Int} {O : List Nat} {p : Nat} (h : zao ws p = false) : zl ws (O ++ [p]) = zl ws O ++ [p] := by simp [zl, h]
theorem zsj {ws : List Int} {L O : List Nat} {p : Nat} (h : zao ws p = true) : (fun i => if i = p then fwP (za ws p) else zm ws L O i) = zm ws L (O ++ [p]) := by
 funext i
 unfold zm
 by_cases e : i = p
 · subst e; simp [h]
 · simp [e]
theorem zsk {ws : List Int} {L O : List Nat} {p : Nat} (h : zao ws p = false) : (fun i => if i = p then (p : Int) else zm ws L O i) = zm ws L (O ++ [p]) := by
 funext i
 unfold zm
 by_cases e : i = p
 · subst e; simp [h]
 · simp [e]
theorem zlo (x : Int) : ((fwP x).toNat : Int) = fwP x := by have := zi1 x; omega
theorem ztr {ws : List Int} {O : List Nat} {p : Nat} (h : zao ws p = true) : (fun z => decide (z = fwP (za ws p)) || zbf ws O z) = zbf ws (O ++ [p]) := by
 funext z
 unfold zbf
 rw [zga h]
 have e := zlo (za ws p)
 simp only [zq, List.map_append, List.map_cons, List.map_nil, List.mem_append, List.mem_singleton, e]
 rw [Bool.eq_iff_iff]
 simp
 exact Or.comm
theorem zts {ws : List Int} {O : List Nat} {p : Nat} (h : zao ws p = false) : zbf ws (O ++ [p]) = zbf ws O := by
 funext z
 unfold zbf
 rw [zg2 h]
theorem znu {ws : List Int} {p : Nat} (h : zb0 (za ws p) = true) : zao ws p = true := by
 have : zac (za ws p) = false := by
  rw [<- Bool.not_eq_true]
  intro g
  rw [zjx g] at h
  simp at h
 simp [zao, h, this]
theorem zjl {ws : List Int} {p : Nat} (h : zac (za ws p) = true) : zao ws p = false := by simp [zao, h]
theorem zgp {ws : List Int} {sr : Int} {S T : Nat} {L O : List Nat} {y : Int} (hL : zn (nx1 ws sr) S T L) (hS : 1 <= S) (hO : ∀ p ∈ O, ¬ (S <= p /\ p < T)) (hy : 0 <= y) : zbq (S : Int) (T : Int) (zm ws L O) y = true ↔ y.toNat ∈ L := by
 unfold zbq
 simp only [Bool.and_eq_true, decide_eq_true_eq, beq_iff_eq]
 constructor
 · rintro ⟨⟨h1, h2⟩, h3⟩
   have hn : y.toNat ∉ O := fun g => hO _ g (by omega)
   unfold zm zb4 at h3
   rw [if_neg hn] at h3
   by_cases g : y.toNat ∈ L
   · exact g
   · rw [if_neg g] at h3; omega
 · intro h
   have := hL.mem _ h
   have hn : y.toNat ∉ O := fun g => hO _ g (by omega)
   refine ⟨by omega, ?_⟩
   unfold zm zb4
   rw [if_neg hn, if_pos h]
   omega
def zd1 (ws : List Int) (sr : Int) (L : List Nat) (F Od : Nat) (cpz : Int) : Prop := ∃ O, zn (nx2 ws sr L) F Od O /\ (tgs ws O).Nodup /\ (zx ws (L ++ zl ws O)).Nodup /\ (zae ws O : Int) = cpz
def zb5 (ws : List Int) (sr : Int) (L : List Nat) (P Od : Nat) (cpz : Int) (O : List Nat) : Prop := ∃ M, zn (nx2 ws sr L) P Od M /\ (tgs ws (O ++ M)).Nodup /\ (zx ws (L ++ zl ws (O ++ M))).Nodup /\ (zae ws (O ++ M) : Int) = cpz
theorem zph {ws : List Int} {sr : Int} {L : List Nat} {P Od : Nat} {cpz : Int} {O : List Nat} (h : Od < P) : ¬ zb5 ws sr L P Od cpz O := fun ⟨M, hM, _⟩ => by have := hM.le; omega
theorem zq8 {ws : List Int} {sr : Int} {L : List Nat} {Od : Nat} {cpz : Int} {O : List Nat} (h1 : (tgs ws O).Nodup) (h2 : (zx ws (L ++ zl ws O)).Nodup) : zb5 ws sr L Od Od cpz O ↔ (zae ws O : Int) = cpz := by
 constructor
 · rintro ⟨M, hM, _, _, hs⟩
   cases M with
   | nil => simpa using hs
   | cons x M =>
     obtain ⟨rfl, s, hs', t⟩ := hM
     have := t.le
     omega
 · exact fun h => ⟨[], .nil _, by simpa using h1, by simpa using h2, by simpa using h⟩
theorem zi0 {ws : List Int} {sr : Int} {L : List Nat} {P Od s : Nat} {cpz : Int} {O : List Nat} (hs : nx2 ws sr L P = some s) (hP : P < Od) : zb5 ws sr L P Od cpz O ↔ zb5 ws sr L (P + s + 1) Od cpz (O ++ [P]) := by
 constructor
 · rintro ⟨M, hM, r⟩
   cases M with
   | nil =>
     have hM' : Od = P := hM
     omega
   | cons x M =>
     obtain ⟨rfl, s', hs', t⟩ := hM
     rw [hs] at hs'
     cases hs'
     exact ⟨_, t, by simpa using r⟩
 · rintro ⟨M, hM, r⟩
   exact ⟨P :: M, .cons hs hM, by simpa using r⟩
theorem zq9 {ws : List Int} {sr : Int} {S T : Nat} {L O : List Nat} {P : Nat} (hL : zn (nx1 ws sr) S T L) (hS : 1 <= S) (hO : ∀ p ∈ O, ¬ (S <= p /\ p < T)) (h : zcw ws S T (zm ws L O) (zbf ws O) P) (hn : (tgs ws O).Nodup) :
 zao ws P = true /\ nx2 ws sr L P = some (rdS (za ws (zq ws P))).toNat /\ zq ws P ∈ L /\ (tgs ws (O ++ [P])).Nodup := by
 have hf := znu h.1
 have hm : zq ws P ∈ L := (zgp hL hS hO (zi1 _).1).1 h.2.1
 have hr : zac (za ws P) = false := by simp only [zao, Bool.and_eq_true, Bool.not_eq_true'] at hf; exact hf.1
 refine ⟨hf, ?_, hm, ?_⟩
 · unfold nx2
   rw [if_neg (by simp [hr]), if_pos ⟨h.1, hm⟩]
 · rw [zga hf, List.nodup_append]
   refine ⟨hn, by simp, ?_⟩
   intro a ha c hc e
   simp at hc
   subst hc
   subst e
   have := h.2.2
   unfold zbf at this
   have := of_decide_eq_false this
   exact this (List.mem_map.2 ⟨_, ha, zlo _⟩)
theorem zpi {ws : List Int} {sr : Int} {S T : Nat} {L O M : List Nat} {P s : Nat} (hL : zn (nx1 ws sr) S T L) (hS : 1 <= S) (hO : ∀ p ∈ O, ¬ (S <= p /\ p < T)) (h : ¬ zcw ws S T (zm ws L O) (zbf ws O) P) (hs : nx2 ws sr L P = some s) (hn : (tgs ws (O ++ P :: M)).Nodup) : zac (za ws P) = true := by
 by_cases hr : zac (za ws P) = true
 · exact hr
 · rw [Bool.not_eq_true] at hr
   obtain ⟨g1, g2, _⟩ := zff hs hr
   exfalso
   refine h ⟨g1, (zgp hL hS hO (zi1 _).1).2 g2, ?_⟩
   unfold zbf
   apply decide_eq_false
   intro hm
   obtain ⟨a, ha, e⟩ := List.mem_map.1 hm
   have ea : a = zq ws P := by unfold zq; omega
   subst ea
   have e2 : O ++ P :: M = (O ++ [P]) ++ M := by simp
   rw [e2] at hn
   unfold tgs at hn
   rw [List.filter_append, List.map_append] at hn
   have hn2 := (List.nodup_append.1 hn).1
   have hn3 : (tgs ws (O ++ [P])).Nodup := hn2
   rw [zga (znu g1)] at hn3
   exact (List.nodup_append.1 hn3).2.2 _ ha _ (List.mem_singleton.2 rfl) rfl
theorem zv.mono {B Bp : Nat} {w : World} {sv bl bs bc n : Nat} {C : Array Value} {vp : Value} {lead : Nat -> Int} {pl : List Nat} {ns nc ms mc : Nat} {hser hcop : Int -> Bool} (h : zv B Bp w sv bl bs bc n C vp lead pl ns nc hser hcop) (hs : ns <= ms) (hc : nc <= mc) : zv B Bp w sv bl bs bc n C vp lead pl ms mc hser hcop :=
 ⟨h.head, h.row, h.own, h.ser.mono hs, h.cop.mono hc, h.ge, h.lt, h.ne, h.size⟩
theorem zsh (ws : List Int) (O : List Nat) : (zl ws O).length <= O.length := List.length_filter_le _ _
theorem zpg {ws : List Int} {sr : Int} {h : Int -> Bool} {P : Nat} (hE : zb8 ws sr h P) : zao ws P = false := zjl hE.1
theorem zq7 {ws : List Int} {sr : Int} {h : Int -> Bool} {L : List Nat} {P : Nat} (hE : zb8 ws sr h P) : nx2 ws sr L P = some (rdS (za ws P)).toNat := by
 unfold nx2
 rw [if_pos hE.1, if_pos hE.2.1]
theorem zsi {ws : List Int} {sr : Int} {S T : Nat} {L O : List Nat} {P Od : Nat} {cpz : Int} (hL : zn (nx1 ws sr) S T L) (hS : 1 <= S) (hO : ∀ p ∈ O, ¬ (S <= p /\ p < T)) (hF : ¬ zcw ws S T (zm ws L O) (zbf ws O) P) (hE : ¬ zb8 ws sr (zav ws (L ++ zl ws O)) P) (hP : P < Od) : ¬ zb5 ws sr L P Od cpz O := by
 rintro ⟨M, hM, h1, h2, _⟩
 cases M with
 | nil =>
   have hM' : Od = P := hM
   omega
 | cons x M =>
   rename_i hsum'
   obtain ⟨rfl, s, hs, t⟩ := hM
   have hr := zpi hL hS hO hF hs h1
   have g2 := (zh8 hs hr).1
   refine hE ⟨hr, g2, fun h0 => ?_⟩
   unfold zav
   apply decide_eq_false
   intro hm
   have e : zl ws (O ++ P :: M) = (zl ws O ++ [P]) ++ zl ws M := by simp [zl, zjl hr]
   rw [e, <- List.append_assoc, <- List.append_assoc, zeh, ze8, if_neg h0] at h2
   have h3 := (List.nodup_append.1 h2).1
   exact (List.nodup_append.1 h3).2.2 _ hm _ (List.mem_singleton.2 rfl) rfl
set_option maxHeartbeats 8000000 in
theorem zg8 (b off cw : Nat) (ws : List Int) (smz toh top : Int) (cyc : Bool) (sn old cpz sr : Int) (ar : Option Addr) (cr : Nat) (rs : List (Int × Int)) (B Bp sv bl cl bs bc : Nat) (vp : Value) (S T F Od : Nat) (L : List Nat) (w : World) (hS : zv B Bp w sv bl bs bc ws.length #[.slice (some ⟨b, off, none⟩) ws.length cw, .int .i64 smz, .int .i64 toh, .int .i64 top, .bool cyc, .int .i64 sn, .int .i64 old, .int .i64 cpz, .int .i64 sr, .slice ar rs.length cr, .slice (some ⟨bl, 0, none⟩) ws.length cl, vp, .map (some bs), .map (some bc)] vp (zm ws L []) (L ++ zl ws []) L.length 0 (zav ws (L ++ zl ws [])) (zbf ws [])) (hb : b < w.heap.size) (hbB : b < B) (hc : ∀ i, i < ws.length -> w.cell? ⟨b, off + i, none⟩ = some (.int .u64 (za ws i))) (hn : ws.length <= 8000) (hw : zi ws) (t0 : 0 <= toh) (t1 : toh <= 1) (s0 : 256 <= smz) (s1 : smz <= 4000) (hSe : toh * smz + 1 = S) (hT : top = T) (hF : (1 - toh) * smz + 1 = F) (hOd : old = Od) (hS1 : 1 <= S) (hTn : T <= ws.length) (hFO : F <= Od) (hOn : Od <= ws.length) (hap : T <= F \/ Od <= S) (hL : zn (nx1 ws sr) S T L) (hLn : (zx ws L).Nodup) :
 Calls Tryz.prog 166 #[.pointer (some ⟨sv, 0, none⟩)] w fun e w' => ∃ q, e = .returned (.bool q) /\ (q = true ↔ zd1 ws sr L F Od cpz) /\ Below B w w' /\ (q = false -> ∃ vp' lead' pl' ns' nc' h1 h2, zv B Bp w' sv bl bs bc ws.length ((fun vp => #[.slice (some ⟨b, off, none⟩) ws.length cw, .int .i64 smz, .int .i64 toh, .int .i64 top, .bool cyc, .int .i64 sn, .int .i64 old, .int .i64 cpz, .int .i64 sr, .slice ar rs.length cr, .slice (some ⟨bl, 0, none⟩) ws.length cl, vp, .map (some bs), .map (some bc)]) vp') vp' lead' pl' ns' nc' h1 h2) /\ (q = true -> ∃ O vp', zn (nx2 ws sr L) F Od O /\ (tgs ws O).Nodup /\ (zx ws (L ++ zl ws O)).Nodup /\ (zae ws O : Int) = cpz /\ zv B Bp w' sv bl bs bc ws.length ((fun vp => #[.slice (some ⟨b, off, none⟩) ws.length cw, .int .i64 smz, .int .i64 toh, .int .i64 top, .bool cyc, .int .i64 sn, .int .i64 old, .int .i64 cpz, .int .i64 sr, .slice ar rs.length cr, .slice (some ⟨bl, 0, none⟩) ws.length cl, vp, .map (some bs), .map (some bc)]) vp') vp' (zm ws L O) (L ++ zl ws O) (L.length + O.length) O.length (zav ws (L ++ zl ws O)) (zbf ws O)) := by
 have HSe : Hid (toh * smz + 1 = (S : Int)) := hSe
 have HF : Hid ((1 - toh) * smz + 1 = (F : Int)) := hF
 have HT : Hid (top = (T : Int)) := hT
 have HOd : Hid (old = (Od : Int)) := hOd
 have hTl : top <= ws.length := by omega
 have u0 : 0 <= 1 - toh := by omega
 have u1 : 1 - toh <= 1 := by omega
 have hBw : B <= w.heap.size := by have := hS.ge; have := hS.lt; have := hS.size; omega
 have hn' : ws.length <= 1048576 := by omega
 have KS := hS.cells
 have lsv := hS.lsv
 have hLl := hL.len
 have HL : Hid (zn (nx1 ws sr) S T L) := hL
 have HC : Hid (∀ i, i < ws.length -> w.cell? ⟨b, off + i, none⟩ = some (.int .u64 (za ws i))) := hc
 have HLN : Hid ((zx ws L).Nodup) := hLn
 have KP : ∀ W, Below w.heap.size w W -> (Below w.heap.size w W /\ (∀ i, W.cell? ⟨sv, i, none⟩ = (#[.slice (some ⟨b, off, none⟩) ws.length cw, .int .i64 smz, .int .i64 toh, .int .i64 top, .bool cyc, .int .i64 sn, .int .i64 old, .int .i64 cpz, .int .i64 sr, .slice ar rs.length cr, .slice (some ⟨bl, 0, none⟩) ws.length cl, vp, .map (some bs), .map (some bc)] : Array Value)[i]?)) := fun W hW => ⟨hW, ze KS hW lsv⟩
 clear hF hc hT hSe hOd hL hLn
 go_enter Tryz.func166, Tryz.ntmps166
 go_wp2
 have b1' := (Below.refl w.heap.size w).drew
 go_cut [3, 4] from 5 to 14 (fun s3 s4 wc => s3 = .int .i64 (F : Int) /\ s4 = .int .i64 0 /\ Below w.heap.size w wc)
 case first =>
  go_region_held3 (fun W => Below w.heap.size w W /\ (∀ i, W.cell? ⟨sv, i, none⟩ = (#[.slice (some ⟨b, off, none⟩) ws.length cw, .int .i64 smz, .int .i64 toh, .int .i64 top, .bool cyc, .int .i64 sn, .int .i64 old, .int .i64 cpz, .int .i64 sr, .slice ar rs.length cr, .slice (some ⟨bl, 0, none⟩) ws.length cl, vp, .map (some bs), .map (some bc)] : Array Value)[i]?)) (first | exact KP _ (by assumption) | exact KP _ b1') (first | (go_at_call 109; refine (zfo _ _ _ _ _ _ _ _ _ _ _ _ _ _ _ t0 t1).mono ?_; rintro e w' ⟨rfl, hb⟩; have hB3 := zc (w := w) (And.left (by assumption)) hb; clear hb) | (go_at_call 62; refine (zdi _ _ _ _ _ _ _ _ _ _ _ _ _ _ (1 - toh) (F : Int) _ u0 u1 s0 s1 HF.out).mono ?_; rintro e w' ⟨rfl, hb⟩; have hB3 := zc (w := w) (And.left (by assumption)) hb; clear hb))
  all_goals (go_wp2_with fail; go_meet; exact ⟨rfl, rfl, by assumption⟩)
 case rest =>
  obtain ⟨rfl, rfl, hBc⟩ := hcut
  have Sc := hS.below hBc
  have Bc := zan hBc hBw
  clear KP KS b1' hS
  go_wp2
  go_loopw [3, 4] (fun u3 u4 wr => ∃ (P : Nat) (O : List Nat) (vp' : Value), u3 = .int .i64 (P : Int) /\ u4 = .int .i64 (zae ws O : Int) /\ P <= Od + 257 /\ zn (nx2 ws sr L) F P O /\ (tgs ws O).Nodup /\ (zx ws (L ++ zl ws O)).Nodup /\ (zd1 ws sr L F Od cpz ↔ zb5 ws sr L P Od cpz O) /\ (∀ p ∈ O, ¬ (S <= p /\ p < T)) /\ zv B Bp wr sv bl bs bc ws.length ((fun vp => #[.slice (some ⟨b, off, none⟩) ws.length cw, .int .i64 smz, .int .i64 toh, .int .i64 top, .bool cyc, .int .i64 sn, .int .i64 old, .int .i64 cpz, .int .i64 sr, .slice ar rs.length cr, .slice (some ⟨bl, 0, none⟩) ws.length cl, vp, .map (some bs), .map (some bc)]) vp') vp' (zm ws L O) (L ++ zl ws O) (L.length + O.length) O.length (zav ws (L ++ zl ws O)) (zbf ws O) /\ Below B w wr) (fun u3 _ _ => Od + 300 - (intOf u3).toNat)
  case atStart => exact ⟨F, [], vp, rfl, rfl, by omega, .nil _, by simp [tgs], by simpa [zl] using HLN.out, by unfold zd1 zb5; simp, by simp, Sc, Bc⟩
  case round =>
   obtain ⟨P, O, vq, rfl, rfl, hPT, hCh, hnt, hns, hgo, hO, hR, hB⟩ := hrel
   have hlen := hCh.len
   have hsum := zeu hCh
   have hhl := zsh ws O
   have HG : Hid (zd1 ws sr L F Od cpz ↔ zb5 ws sr L P Od cpz O) := hgo
   have HCH : Hid (zn (nx2 ws sr L) F P O) := hCh
   have HNT : Hid ((tgs ws O).Nodup) := hnt
   have HNS : Hid ((zx ws (L ++ zl ws O)).Nodup) := hns
   have HOO : Hid (∀ p ∈ O, ¬ (S <= p /\ p < T)) := hO
   clear hgo hCh hnt hns hO Sc
   have KR := hR.cells
   have CR := zdu hbB hb HC.out hB
   have hpl : (L ++ zl ws O).length <= 10000 := by simp; omega
   by_cases hlt : P < Od
   · have hltd : (P : Int) < old := by rw [HOd.out]; omega
     have hPn : P < ws.length := by omega
     have HON : Hid (∀ p ∈ O ++ [P], ¬ (S <= p /\ p < T)) := fun p hp => by
      rcases List.mem_append.1 hp with h | h
      · exact HOO.out p h
      · simp at h; subst h; have := HCH.out.le; omega
     by_cases hFo : zcw ws S T (zm ws L O) (zbf ws O) P
     · obtain ⟨f1, f2, f3, f4⟩ := zq9 HL.out hS1 HOO.out hFo HNT.out
       have hq := (HL.out.mem _ f3).2.1
       have HFo : Hid (zcw ws S top (zm ws L O) (zbf ws O) P) := by show zcw ws S top (zm ws L O) (zbf ws O) P; rw [HT.out]; exact hFo
       have HST : Hid (zd1 ws sr L F Od cpz ↔ zb5 ws sr L (P + (rdS (za ws (zq ws P))).toNat + 1) Od cpz (O ++ [P])) := HG.out.trans (zi0 f2 hlt)
       have HCN : Hid (zn (nx2 ws sr L) F (P + (rdS (za ws (zq ws P))).toNat + 1) (O ++ [P])) := HCH.out.snoc f2
       have HNN : Hid ((tgs ws (O ++ [P])).Nodup) := f4
       have HNS2 : Hid ((zx ws (L ++ zl ws (O ++ [P]))).Nodup) := by show (zx ws (L ++ zl ws (O ++ [P]))).Nodup; rw [zns f1]; exact HNS.out
       have hsb := zaw (za ws (zq ws P))
       have hsn := zje (O := O) f1
       have hqn : zq ws P < ws.length := by omega
       have hld : zm ws L (O ++ [P]) P = (zq ws P : Int) := by have e := zlo (za ws P); unfold zm zq; rw [if_pos (by simp), if_pos f1, e]
       have HLD : Hid (zm ws L (O ++ [P]) P = (zq ws P : Int)) := hld
       have HF1 : Hid (zao ws P = true) := f1
       clear hFo f1 f2 f3 f4 hld
       go_wp2_with (first | (go_at_call 195; refine (zg9 b off cw ws smz toh top cyc sn old cpz sr ar cr rs B Bp sv bl cl bs bc vq (zm ws L O) (L ++ zl ws O) (L.length + O.length) O.length (zav ws (L ++ zl ws O)) (zbf ws O) _ (S : Int) P _ hR CR.1 hbB CR.2 hn' hw (by omega) t0 t1 s0 s1 HSe.out hTl rfl hPn).mono ?_; rintro e w4 (⟨hbad, _⟩ | ⟨_, rfl, b4, S4⟩); exact absurd HFo.out hbad; rw [zsj HF1.out, ztr HF1.out] at S4; have hB4 := hB.trans b4; have C4 := zdu hbB hb HC.out hB4) | (go_at_call 164; first | (refine (zhj b off cw ws smz toh top cyc sn old cpz sr ar cr rs sv bl cl bs bc vq (zm ws L (O ++ [P])) _ P (zq ws P) _ S5.lsv S5.cells S5.lbl S5.leads C5.1 C5.2 hn' hw rfl hPn HLD.out hqn).mono ?_; rintro e w6 ⟨rfl, b6⟩; have S6 := S5.below b6; have hB6 : Below B w w6 := hB5.trans (zan b6 (by have := S5.size; have := S5.lt; have := S5.ge; omega))) | (refine (zhj b off cw ws smz toh top cyc sn old cpz sr ar cr rs sv bl cl bs bc vq (zm ws L (O ++ [P])) _ P (zq ws P) _ S4.lsv S4.cells S4.lbl S4.leads C4.1 C4.2 hn' hw rfl hPn HLD.out hqn).mono ?_; rintro e w5 ⟨rfl, b5⟩; have S5 := S4.below b5; have hB5 : Below B w w5 := hB4.trans (zan b5 (by have := S4.size; have := S4.lt; have := S4.ge; omega)); have C5 := zdu hbB hb HC.out hB5)))
       have eP : (P : Int) + (rdS (za ws (zq ws P)) + 1) = ((P + (rdS (za ws (zq ws P))).toNat + 1 : Nat) : Int) := by omega
       have eS : (zae ws O : Int) + (rdS (za ws (zq ws P)) + 1) = ((zae ws (O ++ [P]) : Nat) : Int) := by omega
       have S7 : zv B Bp w6 sv bl bs bc ws.length ((fun vp => #[.slice (some ⟨b, off, none⟩) ws.length cw, .int .i64 smz, .int .i64 toh, .int .i64 top, .bool cyc, .int .i64 sn, .int .i64 old, .int .i64 cpz, .int .i64 sr, .slice ar rs.length cr, .slice (some ⟨bl, 0, none⟩) ws.length cl, vp, .map (some bs), .map (some bc)]) vq) vq (zm ws L (O ++ [P])) (L ++ zl ws (O ++ [P])) (L.length + (O ++ [P]).length) (O ++ [P]).length (zav ws (L ++ zl ws (O ++ [P]))) (zbf ws (O ++ [P])) := by
        rw [zns HF1.out]
        exact S6.mono (by simp) (by simp)
       first
        | (refine ⟨⟨P + (rdS (za ws (zq ws P))).toNat + 1, O ++ [P], vq, by rw [<- eP], by rw [<- eS], by omega, HCN.out, HNN.out, HNS2.out, HST.out, HON.out, S7, hB6⟩, by simp [intOf]; omega⟩)
        | (go_roundw
           case rel => exact ⟨P + (rdS (za ws (zq ws P))).toNat + 1, O ++ [P], vq, by rw [<- eP], by rw [<- eS], by omega, HCN.out, HNN.out, HNS2.out, HST.out, HON.out, S7, hB6⟩
           case measure => simp [intOf]; omega)
     · have HFo : Hid (¬ zcw ws S top (zm ws L O) (zbf ws O) P) := by show ¬ zcw ws S top (zm ws L O) (zbf ws O) P; rw [HT.out]; exact hFo
       by_cases hE : zb8 ws sr (zav ws (L ++ zl ws O)) P
       · have f1 := zpg hE
         have f2 := zq7 (L := L) hE
         have HST : Hid (zd1 ws sr L F Od cpz ↔ zb5 ws sr L (P + (rdS (za ws P)).toNat + 1) Od cpz (O ++ [P])) := HG.out.trans (zi0 f2 hlt)
         have HCN : Hid (zn (nx2 ws sr L) F (P + (rdS (za ws P)).toNat + 1) (O ++ [P])) := HCH.out.snoc f2
         have HNN : Hid ((tgs ws (O ++ [P])).Nodup) := by show (tgs ws (O ++ [P])).Nodup; rw [zg2 f1]; exact HNT.out
         have HNS2 : Hid ((zx ws (L ++ zl ws (O ++ [P]))).Nodup) := by show (zx ws (L ++ zl ws (O ++ [P]))).Nodup; rw [znt f1, <- List.append_assoc]; exact zhv hE HNS.out
         have HE : Hid (zb8 ws sr (zav ws (L ++ zl ws O)) P) := hE
         have hsb := zaw (za ws P)
         have hsn := zjf (O := O) f1
         have hld : zm ws L (O ++ [P]) P = (P : Int) := by unfold zm; rw [if_pos (by simp), if_neg (by simp [f1])]
         have HLD : Hid (zm ws L (O ++ [P]) P = (P : Int)) := hld
         have HF1 : Hid (zao ws P = false) := f1
         clear hFo f1 f2 hld hE
         go_wp2_with (first | (go_at_call 195; refine (zg9 b off cw ws smz toh top cyc sn old cpz sr ar cr rs B Bp sv bl cl bs bc vq (zm ws L O) (L ++ zl ws O) (L.length + O.length) O.length (zav ws (L ++ zl ws O)) (zbf ws O) _ (S : Int) P _ hR CR.1 hbB CR.2 hn' hw (by omega) t0 t1 s0 s1 HSe.out hTl rfl hPn).mono ?_; rintro e w4 (⟨_, rfl, b4⟩ | ⟨hbad, _⟩); rotate_left; exact absurd hbad HFo.out; have S4 := hR.below b4; have hB4 : Below B w w4 := hB.trans (zan b4 (by have := hR.size; have := hR.lt; have := hR.ge; omega)); have C4 := zdu hbB hb HC.out hB4) | (go_at_call 163; refine (zgq b off cw ws smz toh top cyc sn old cpz sr ar cr rs B Bp sv bl cl bs bc vq (zm ws L O) (L ++ zl ws O) (L.length + O.length) O.length (zav ws (L ++ zl ws O)) (zbf ws O) _ P _ S4 C4.1 hbB C4.2 hn' hw (by omega) hpl rfl hPn).mono ?_; rintro e w5 ⟨q, rfl, hq, b5, _, s5⟩; obtain rfl : q = true := hq.2 HE.out; clear hq; obtain ⟨v5, S5⟩ := s5 rfl; clear s5; rw [zsk HF1.out, zj3] at S5; have hB5 := hB4.trans b5; have C5 := zdu hbB hb HC.out hB5) | (go_at_call 164; refine (zhj b off cw ws smz toh top cyc sn old cpz sr ar cr rs sv bl cl bs bc v5 (zm ws L (O ++ [P])) _ P P _ S5.lsv S5.cells S5.lbl S5.leads C5.1 C5.2 hn' hw rfl hPn HLD.out hPn).mono ?_; rintro e w6 ⟨rfl, b6⟩; have S6 := S5.below b6; have hB6 : Below B w w6 := hB5.trans (zan b6 (by have := S5.size; have := S5.lt; have := S5.ge; omega))))
         have eP : (P : Int) + (rdS (za ws P) + 1) = ((P + (rdS (za ws P)).toNat + 1 : Nat) : Int) := by omega
         have S7 : zv B Bp w6 sv bl bs bc ws.length ((fun vp => #[.slice (some ⟨b, off, none⟩) ws.length cw, .int .i64 smz, .int .i64 toh, .int .i64 top, .bool cyc, .int .i64 sn, .int .i64 old, .int .i64 cpz, .int .i64 sr, .slice ar rs.length cr, .slice (some ⟨bl, 0, none⟩) ws.length cl, vp, .map (some bs), .map (some bc)]) v5) v5 (zm ws L (O ++ [P])) (L ++ zl ws (O ++ [P])) (L.length + (O ++ [P]).length) (O ++ [P]).length (zav ws (L ++ zl ws (O ++ [P]))) (zbf ws (O ++ [P])) := by
          rw [znt HF1.out, <- List.append_assoc, zts HF1.out]
          exact S6.mono (by simp; omega) (by simp)
         first
          | (refine ⟨⟨P + (rdS (za ws P)).toNat + 1, O ++ [P], v5, by rw [<- eP], by rw [hsn], by omega, HCN.out, HNN.out, HNS2.out, HST.out, HON.out, S7, hB6⟩, by simp [intOf]; omega⟩)
          | (go_roundw
             case rel => exact ⟨P + (rdS (za ws P)).toNat + 1, O ++ [P], v5, by rw [<- eP], by rw [hsn], by omega, HCN.out, HNN.out, HNS2.out, HST.out, HON.out, S7, hB6⟩
             case measure => simp [intOf]; omega)
       · have HNO : Hid (¬ zd1 ws sr L F Od cpz) := fun g => zsi HL.out hS1 HOO.out hFo hE hlt (HG.out.1 g)
         have HE : Hid (¬ zb8 ws sr (zav ws (L ++ zl ws O)) P) := hE
         clear hFo hE
         go_wp2_with (first | (go_at_call 195; refine (zg9 b off cw ws smz toh top cyc sn old cpz sr ar cr rs B Bp sv bl cl bs bc vq (zm ws L O) (L ++ zl ws O) (L.length + O.length) O.length (zav ws (L ++ zl ws O)) (zbf ws O) _ (S : Int) P _ hR CR.1 hbB CR.2 hn' hw (by omega) t0 t1 s0 s1 HSe.out hTl rfl hPn).mono ?_; rintro e w4 (⟨_, rfl, b4⟩ | ⟨hbad, _⟩); rotate_left; exact absurd hbad HFo.out; have S4 := hR.below b4; have hB4 : Below B w w4 := hB.trans (zan b4 (by have := hR.size; have := hR.lt; have := hR.ge; omega)); have C4 := zdu hbB hb HC.out hB4) | (go_at_call 163; refine (zgq b off cw ws smz toh top cyc sn old cpz sr ar cr rs B Bp sv bl cl bs bc vq (zm ws L O) (L ++ zl ws O) (L.length + O.length) O.length (zav ws (L ++ zl ws O)) (zbf ws O) _ P _ S4 C4.1 hbB C4.2 hn' hw (by omega) hpl rfl hPn).mono ?_; rintro e w5 ⟨q, rfl, hq, b5, f5, s5⟩; obtain rfl : q = false := (by cases q with | false => rfl | true => exact absurd (hq.1 rfl) HE.out); have S5 := S4.below (f5 rfl); clear hq s5 f5))
         go_ret
         exact ⟨false, rfl, ⟨fun g => by simp at g, fun g => absurd g HNO.out⟩, hB4.trans b5, fun _ => ⟨_, _, _, _, _, _, _, S5⟩, fun g => by simp at g⟩
   · have hed : decide ((P : Int) < old) = false := decide_eq_false (by rw [HOd.out]; omega)
     by_cases he : P = Od
     · have heq : ((P : Int) == old) = true := by rw [HOd.out]; simp; omega
       have hge : zb5 ws sr L P Od cpz O ↔ (zae ws O : Int) = cpz := by rw [he]; exact zq8 HNT.out HNS.out
       have HCT : Hid (zn (nx2 ws sr L) F Od O) := by show zn (nx2 ws sr L) F Od O; rw [<- he]; exact HCH.out
       clear he hlt
       by_cases hsm : (zae ws O : Int) = cpz
       · have hse : ((zae ws O : Int) == cpz) = true := by simpa using hsm
         have HSM : Hid ((zae ws O : Int) = cpz) := hsm
         have HGG : Hid (zd1 ws sr L F Od cpz) := HG.out.2 (hge.2 hsm)
         clear hsm hge
         go_wp2
         go_ret
         first
          | exact ⟨true, rfl, ⟨fun _ => HGG.out, fun _ => rfl⟩, hB, (fun g => by simp at g), fun _ => ⟨O, vq, HCT.out, HNT.out, HNS.out, HSM.out, hR⟩⟩
          | exact Or.inr ⟨rfl, HGG.out, hB, O, HCT.out, HNT.out, HNS.out, HSM.out, vq, hR⟩
          | exact Or.inr ⟨rfl, HGG.out, hB, O, vq, HCT.out, HNT.out, HNS.out, HSM.out, hR⟩
       · have hse : ((zae ws O : Int) == cpz) = false := by simpa using hsm
         have HNO : Hid (¬ zd1 ws sr L F Od cpz) := fun g => hsm (hge.1 (HG.out.1 g))
         clear hsm hge
         go_wp2
         go_ret
         first
          | exact ⟨false, rfl, ⟨fun g => by simp at g, fun g => absurd g HNO.out⟩, hB, fun _ => ⟨_, _, _, _, _, _, _, hR⟩, fun g => by simp at g⟩
          | exact Or.inl ⟨rfl, HNO.out, hB, _, _, _, _, _, _, _, hR⟩
     · have heq : ((P : Int) == old) = false := by rw [HOd.out]; simp; omega
       have HNO : Hid (¬ zd1 ws sr L F Od cpz) := fun g => zph (by omega) (HG.out.1 g)
       clear he hlt
       go_wp2
       go_ret
       first
        | exact ⟨false, rfl, ⟨fun g => by simp at g, fun g => absurd g HNO.out⟩, hB, fun _ => ⟨_, _, _, _, _, _, _, hR⟩, fun g => by simp at g⟩
        | exact Or.inl ⟨rfl, HNO.out, hB, _, _, _, _, _, _, _, hR⟩
end Go.Proofs.YtmckcnmlhgpnhaaGreat
