/- The program's follow. -/
import Derived.Test.YtaapiedminakcaaGreatProg
import Derived.Test.YtaapiedminakcaaGreatKSvC
namespace Go.Proofs.YtaapiedminakcaaGreat
set_option maxRecDepth 20000
open Go.RowKit Go.Maps
set_option linter.unusedSimpArgs false
set_option linter.unusedVariables false

/-- An object of the half in use stands at x. -/
def standsB (F top : Int) (lead : Nat → Int) (x : Int) : Bool := decide (F ≤ x ∧ x < top) && (lead x.toNat == x)
/-- What follow asks of the word at p. -/
def FollowOk (ws : List Int) (F top : Int) (lead : Nat → Int) (hcop : Int → Bool) (p : Nat) : Prop := fwOk (wordAt ws p) = true ∧ standsB F top lead (fwP (wordAt ws p)) = true ∧ hcop (fwP (wordAt ws p)) = false
theorem fwP_in (x : Int) : 0 ≤ fwP x ∧ fwP x ≤ 2147483647 := by
  unfold fwP
  split
  · rename_i h
    have := of_decide_eq_true h
    omega
  · omega
theorem implForwarded_is (x Y : Int) (w : World) (h0 : 0 ≤ x) (h1 : x < 18446744073709551616) (hY : fwP x = Y) :
    Calls Tryz.prog 181 #[.int .u64 x] w fun e w' => e = .returned (.tuple #[.int .i64 Y, .bool (fwOk x)]) ∧ w = w' := by
  subst hY; exact (implForwarded_any x w h0 h1).mono fun e w' g => ⟨g.1, g.2.symm⟩
set_option maxHeartbeats 2000000 in
theorem follow_no (b off cw : Nat) (ws : List Int) (semi toh top : Int) (cyc : Bool) (scan old copied serial : Int) (ar : Option Addr) (cr : Nat) (rs : List (Int × Int)) (sv bl cl bs bc : Nat) (vp : Value) (lead : Nat → Int) (x F : Int) (p : Nat) (w : World) (lsv : sv < w.heap.size) (KS : ∀ i, w.cell? ⟨sv, i, none⟩ = (#[.slice (some ⟨b, off, none⟩) ws.length cw, .int .i64 semi, .int .i64 toh, .int .i64 top, .bool cyc, .int .i64 scan, .int .i64 old, .int .i64 copied, .int .i64 serial, .slice ar rs.length cr, .slice (some ⟨bl, 0, none⟩) ws.length cl, vp, .map (some bs), .map (some bc)] : Array Value)[i]?) (lbl : bl < w.heap.size) (hl : ∀ i, i < ws.length → w.cell? ⟨bl, i, none⟩ = some (.int .i64 (lead i))) (hb : b < w.heap.size) (hc : ∀ i, i < ws.length → w.cell? ⟨b, off + i, none⟩ = some (.int .u64 (wordAt ws i))) (hn : ws.length ≤ 1048576) (hw : Words64 ws) (t0 : 0 ≤ toh) (t1 : toh ≤ 1) (s0 : 256 ≤ semi) (s1 : semi ≤ 4000) (hF : toh * semi + 1 = F) (hT : top ≤ ws.length) (hx : x = p) (hp : p < ws.length) (h : ¬ (fwOk (wordAt ws p) = true ∧ standsB F top lead (fwP (wordAt ws p)) = true)) :
    Calls Tryz.prog 190 #[.pointer (some ⟨sv, 0, none⟩), .int .i64 x] w fun e w' => e = .returned (.bool false) ∧ Below w.heap.size w w' := by
  have x0 : 0 ≤ x := by omega
  have x1 : x < (ws.length : Int) := by omega
  have x2 : x.toNat = p := by omega
  have hwp := word_in hw p
  have hcp := hc p hp
  have HF : Hid (toh * semi + 1 = F) := hF
  have HL : Hid (∀ i, i < ws.length → w.cell? ⟨bl, i, none⟩ = some (.int .i64 (lead i))) := hl
  have HC : Hid (∀ i, i < ws.length → w.cell? ⟨b, off + i, none⟩ = some (.int .u64 (wordAt ws i))) := hc
  clear hx hl hc hF
  cases ho : fwOk (wordAt ws p) with
  | false =>
    clear h
    go_enter Tryz.func190, Tryz.ntmps190
    go_wp2_with (go_at_call 181; refine (implForwarded_any _ _ hwp.1 hwp.2).mono ?_; rw [ho]; rintro e w1 ⟨rfl, rfl⟩)
    go_ret
    exact ⟨rfl, Below.refl _ _⟩
  | true =>
    have hst : (decide (F ≤ fwP (wordAt ws p) ∧ fwP (wordAt ws p) < top) && (lead (fwP (wordAt ws p)).toNat == fwP (wordAt ws p))) = false := by
      rw [← Bool.not_eq_true]; exact fun g => h ⟨ho, g⟩
    clear h
    generalize hYe : fwP (wordAt ws p) = Y at *
    have HY : Hid (fwP (wordAt ws p) = Y) := hYe
    clear hYe
    go_enter Tryz.func190, Tryz.ntmps190
    go_wp2_with (first | (go_at_call 181; refine (implForwarded_is (wordAt ws p) Y _ hwp.1 hwp.2 HY.out).mono ?_; rw [ho]; rintro e w1 ⟨rfl, rfl⟩) | (go_at_call 83; refine (standsInUse_at b off cw ws semi toh top cyc scan old copied serial ar cr rs sv bl cl bs bc vp lead Y F _ lsv KS lbl HL.out hb HC.out hn hw t0 t1 s0 s1 HF.out hT).mono ?_; rw [hst]; rintro e w2 ⟨rfl, b2⟩))
    go_ret
    exact ⟨rfl, b2⟩
set_option maxHeartbeats 2000000 in
theorem follow_on (b off cw : Nat) (ws : List Int) (semi toh top : Int) (cyc : Bool) (scan old copied serial : Int) (ar : Option Addr) (cr : Nat) (rs : List (Int × Int)) (B Bp sv bl cl bs bc : Nat) (vp : Value) (lead : Nat → Int) (pl : List Nat) (ns nc : Nat) (hser hcop : Int → Bool) (x F Y : Int) (p : Nat) (w : World) (hS : Surv B Bp w sv bl bs bc ws.length #[.slice (some ⟨b, off, none⟩) ws.length cw, .int .i64 semi, .int .i64 toh, .int .i64 top, .bool cyc, .int .i64 scan, .int .i64 old, .int .i64 copied, .int .i64 serial, .slice ar rs.length cr, .slice (some ⟨bl, 0, none⟩) ws.length cl, vp, .map (some bs), .map (some bc)] vp lead pl ns nc hser hcop) (hb : b < w.heap.size) (hbB : b < B) (hc : ∀ i, i < ws.length → w.cell? ⟨b, off + i, none⟩ = some (.int .u64 (wordAt ws i))) (hn : ws.length ≤ 1048576) (hw : Words64 ws) (hnc : nc ≤ 10000) (t0 : 0 ≤ toh) (t1 : toh ≤ 1) (s0 : 256 ≤ semi) (s1 : semi ≤ 4000) (hF : toh * semi + 1 = F) (hT : top ≤ ws.length) (hx : x = p) (hp : p < ws.length) (ho : fwOk (wordAt ws p) = true) (hY : fwP (wordAt ws p) = Y) (hst : (decide (F ≤ Y ∧ Y < top) && (lead Y.toNat == Y)) = true) :
    Calls Tryz.prog 190 #[.pointer (some ⟨sv, 0, none⟩), .int .i64 x] w fun e w' => (hcop Y = true ∧ e = .returned (.bool false) ∧ Below w.heap.size w w') ∨ (hcop Y = false ∧ e = .returned (.bool true) ∧ Below B w w' ∧ Surv B Bp w' sv bl bs bc ws.length #[.slice (some ⟨b, off, none⟩) ws.length cw, .int .i64 semi, .int .i64 toh, .int .i64 top, .bool cyc, .int .i64 scan, .int .i64 old, .int .i64 copied, .int .i64 serial, .slice ar rs.length cr, .slice (some ⟨bl, 0, none⟩) ws.length cl, vp, .map (some bs), .map (some bc)] vp (fun i => if i = p then Y else lead i) pl ns (nc + 1) hser (fun z => decide (z = Y) || hcop z)) := by
  have x0 : 0 ≤ x := by omega
  have x1 : x < (ws.length : Int) := by omega
  have x2 : x.toNat = p := by omega
  have hwp := word_in hw p
  have hcp := hc p hp
  have hYb := fwP_in (wordAt ws p)
  rw [hY] at hYb
  have HF : Hid (toh * semi + 1 = F) := hF
  have HY : Hid (fwP (wordAt ws p) = Y) := hY
  have HC : Hid (∀ i, i < ws.length → w.cell? ⟨b, off + i, none⟩ = some (.int .u64 (wordAt ws i))) := hc
  have KS := hS.cells
  have lsv := hS.lsv
  have hge := hS.ge
  have hsz := hS.size
  have hslt := hS.lt
  have wfY : (Lit.int .i64 Y).wf = true := wfI (by omega) (by omega)
  have wfx : (Lit.int .i64 x).wf = true := wfI (by omega) (by omega)
  clear hx hc hF hY
  go_enter Tryz.func190, Tryz.ntmps190
  go_upto_region 4 with (first | (go_at_call 181; refine (implForwarded_is (wordAt ws p) Y _ hwp.1 hwp.2 HY.out).mono ?_; rw [ho]; rintro e w1 ⟨rfl, rfl⟩) | (go_at_call 83; refine (standsInUse_at b off cw ws semi toh top cyc scan old copied serial ar cr rs sv bl cl bs bc vp lead Y F _ lsv KS hS.lbl hS.leads hb HC.out hn hw t0 t1 s0 s1 HF.out hT).mono ?_; rw [hst]; rintro e w2 ⟨rfl, b2⟩))
  have S2 := hS.below b2
  have KS2 := S2.cells
  obtain ⟨c, hlk⟩ := S2.cop.look wfY
  clear KS hcp
  cases hd : hcop Y with
  | true =>
    rw [hd] at hlk
    go_wp2
    go_ret
    exact .inl ⟨hd, rfl, b2⟩
  | false =>
    rw [hd] at hlk
    obtain ⟨w3, hup, hm3, hg3⟩ := S2.cop.put (by omega) wfY wfx
    have S3 := S2.putCop hm3 hg3
    have KS3 := S3.cells
    have q3 : w3.cell? ⟨bl, p, none⟩ = some (.int .i64 (lead p)) := S3.leads p hp
    have f3 := S3.row.frozen p
    have B3 : Below B w w3 := (below_from b2 (by omega)).trans ((grown_apart hg3).below (C := B) (by omega) (by have := b2.size; omega))
    go_wp2
    go_ret
    exact .inr ⟨hd, rfl, B3.setCell (p := ⟨bl, p, none⟩) (by show B ≤ bl; omega) _, S3.setLead p Y⟩
theorem follow_at (b off cw : Nat) (ws : List Int) (semi toh top : Int) (cyc : Bool) (scan old copied serial : Int) (ar : Option Addr) (cr : Nat) (rs : List (Int × Int)) (B Bp sv bl cl bs bc : Nat) (vp : Value) (lead : Nat → Int) (pl : List Nat) (ns nc : Nat) (hser hcop : Int → Bool) (x F : Int) (p : Nat) (w : World) (hS : Surv B Bp w sv bl bs bc ws.length #[.slice (some ⟨b, off, none⟩) ws.length cw, .int .i64 semi, .int .i64 toh, .int .i64 top, .bool cyc, .int .i64 scan, .int .i64 old, .int .i64 copied, .int .i64 serial, .slice ar rs.length cr, .slice (some ⟨bl, 0, none⟩) ws.length cl, vp, .map (some bs), .map (some bc)] vp lead pl ns nc hser hcop) (hb : b < w.heap.size) (hbB : b < B) (hc : ∀ i, i < ws.length → w.cell? ⟨b, off + i, none⟩ = some (.int .u64 (wordAt ws i))) (hn : ws.length ≤ 1048576) (hw : Words64 ws) (hnc : nc ≤ 10000) (t0 : 0 ≤ toh) (t1 : toh ≤ 1) (s0 : 256 ≤ semi) (s1 : semi ≤ 4000) (hF : toh * semi + 1 = F) (hT : top ≤ ws.length) (hx : x = p) (hp : p < ws.length) :
    Calls Tryz.prog 190 #[.pointer (some ⟨sv, 0, none⟩), .int .i64 x] w fun e w' => (¬ FollowOk ws F top lead hcop p ∧ e = .returned (.bool false) ∧ Below w.heap.size w w') ∨ (FollowOk ws F top lead hcop p ∧ e = .returned (.bool true) ∧ Below B w w' ∧ Surv B Bp w' sv bl bs bc ws.length #[.slice (some ⟨b, off, none⟩) ws.length cw, .int .i64 semi, .int .i64 toh, .int .i64 top, .bool cyc, .int .i64 scan, .int .i64 old, .int .i64 copied, .int .i64 serial, .slice ar rs.length cr, .slice (some ⟨bl, 0, none⟩) ws.length cl, vp, .map (some bs), .map (some bc)] vp (fun i => if i = p then fwP (wordAt ws p) else lead i) pl ns (nc + 1) hser (fun z => decide (z = fwP (wordAt ws p)) || hcop z)) := by
  by_cases h : fwOk (wordAt ws p) = true ∧ standsB F top lead (fwP (wordAt ws p)) = true
  · refine (follow_on b off cw ws semi toh top cyc scan old copied serial ar cr rs B Bp sv bl cl bs bc vp lead pl ns nc hser hcop x F _ p w hS hb hbB hc hn hw hnc t0 t1 s0 s1 hF hT hx hp h.1 rfl h.2).mono ?_
    rintro e w' (⟨hd, r⟩ | ⟨hd, r⟩)
    · exact .inl ⟨fun g => by have := g.2.2; rw [hd] at this; simp at this, r⟩
    · exact .inr ⟨⟨h.1, h.2, hd⟩, r⟩
  · refine (follow_no b off cw ws semi toh top cyc scan old copied serial ar cr rs sv bl cl bs bc vp lead x F p w hS.lsv hS.cells hS.lbl hS.leads hb hc hn hw t0 t1 s0 s1 hF hT hx hp h).mono ?_
    rintro e w' r
    exact .inl ⟨fun g => h ⟨g.1, g.2.1⟩, r⟩
end Go.Proofs.YtaapiedminakcaaGreat

/- The program's tileUse. -/
namespace Go.Proofs.YtaapiedminakcaaGreat
set_option maxRecDepth 20000
open Go.RowKit Go.Maps
set_option linter.unusedSimpArgs false
set_option linter.unusedVariables false

/-- The serials, but for 0, of the heads at these places. -/
def sersL (ws : List Int) (L : List Nat) : List Int := (L.map fun p => rdN (wordAt ws p)).filter (fun z => decide (z ≠ 0))
def serH (ws : List Int) (L : List Nat) (z : Int) : Bool := decide (z ∈ sersL ws L)
def leadU (L : List Nat) (i : Nat) : Int := if i ∈ L then (i : Int) else 0
theorem sersL_snoc (ws : List Int) (L : List Nat) (p : Nat) : sersL ws (L ++ [p]) = sersL ws L ++ (if rdN (wordAt ws p) = 0 then [] else [rdN (wordAt ws p)]) := by
  by_cases h : rdN (wordAt ws p) = 0 <;> simp [sersL, h]
theorem sersL_append (ws : List Int) (L M : List Nat) : sersL ws (L ++ M) = sersL ws L ++ sersL ws M := by simp [sersL]
theorem serH_snoc (ws : List Int) (L : List Nat) (p : Nat) : serPut ws (serH ws L) p = serH ws (L ++ [p]) := by
  funext z
  unfold serPut serH
  rw [sersL_snoc]
  by_cases h : rdN (wordAt ws p) = 0
  · simp [h]
  · simp [h, Bool.or_comm]
theorem leadU_snoc (L : List Nat) (p : Nat) : (fun i => if i = p then (p : Int) else leadU L i) = leadU (L ++ [p]) := by
  funext i
  unfold leadU
  by_cases h : i = p
  · subst h; simp
  · simp [h]
theorem Chain.len {nx : Nat → Option Nat} {p q : Nat} {L : List Nat} (h : Chain nx p q L) : p + L.length ≤ q := by
  refine Chain.ind (motive := fun p L => p + L.length ≤ q) (by simp) (fun h t ih => ?_) h
  simp
  omega
/-- The half in use is tiled, and no serial stands twice. -/
def GoodUse (ws : List Int) (serial : Int) (S T : Nat) : Prop := ∃ L, Chain (nx1 ws serial) S T L ∧ (sersL ws L).Nodup
/-- .. from here on. -/
def GoodFrom (ws : List Int) (serial : Int) (P T : Nat) (L : List Nat) : Prop := ∃ M, Chain (nx1 ws serial) P T M ∧ (sersL ws (L ++ M)).Nodup
theorem goodFrom_end (ws : List Int) (serial : Int) (T : Nat) (L : List Nat) (h : (sersL ws L).Nodup) : GoodFrom ws serial T T L := ⟨[], .nil _, by simpa using h⟩
theorem goodFrom_past {ws : List Int} {serial : Int} {P T : Nat} {L : List Nat} (h : T < P) : ¬ GoodFrom ws serial P T L := fun ⟨M, hM, _⟩ => by have := hM.le; omega
theorem enter_nx {ws : List Int} {serial : Int} {L : List Nat} {P : Nat} (h : EnterOk ws serial (serH ws L) P) : nx1 ws serial P = some (rdS (wordAt ws P)).toNat := by
  unfold nx1
  rw [if_pos ⟨h.1, h.2.1⟩]
theorem enter_nodup {ws : List Int} {serial : Int} {L : List Nat} {P : Nat} (h : EnterOk ws serial (serH ws L) P) (hn : (sersL ws L).Nodup) : (sersL ws (L ++ [P])).Nodup := by
  rw [sersL_snoc]
  by_cases h0 : rdN (wordAt ws P) = 0
  · simpa [h0] using hn
  · have := h.2.2 h0
    unfold serH at this
    rw [if_neg h0, List.nodup_append]
    refine ⟨hn, by simp, ?_⟩
    intro a ha c hc
    simp at hc
    subst hc
    intro e
    subst e
    simp [ha] at this
theorem goodFrom_step {ws : List Int} {serial : Int} {P T : Nat} {L : List Nat} (h : EnterOk ws serial (serH ws L) P) (hPT : P < T) : GoodFrom ws serial P T L ↔ GoodFrom ws serial (P + (rdS (wordAt ws P)).toNat + 1) T (L ++ [P]) := by
  constructor
  · rintro ⟨M, hM, hn⟩
    cases M with
    | nil =>
      have hM' : T = P := hM
      omega
    | cons x M =>
      obtain ⟨rfl, s, hs, t⟩ := hM
      rw [enter_nx h] at hs
      cases hs
      exact ⟨_, t, by simpa using hn⟩
  · rintro ⟨M, hM, hn⟩
    exact ⟨P :: M, .cons (enter_nx h) hM, by simpa using hn⟩
theorem goodFrom_no {ws : List Int} {serial : Int} {P T : Nat} {L : List Nat} (h : ¬ EnterOk ws serial (serH ws L) P) (hPT : P < T) : ¬ GoodFrom ws serial P T L := by
  rintro ⟨M, hM, hn⟩
  cases M with
  | nil =>
    have hM' : T = P := hM
    omega
  | cons x M =>
    obtain ⟨rfl, s, hs, t⟩ := hM
    obtain ⟨g1, g2, _⟩ := nx1_some hs
    refine h ⟨g1, g2, fun h0 => ?_⟩
    unfold serH
    apply decide_eq_false
    intro hm
    have e : L ++ P :: M = (L ++ [P]) ++ M := by simp
    rw [e, sersL_append, sersL_snoc, if_neg h0] at hn
    have hn2 := (List.nodup_append.1 hn).1
    have := (List.nodup_append.1 hn2).2.2 _ hm _ (List.mem_singleton.2 rfl)
    exact this rfl
theorem arx_from {B b off : Nat} {w W : World} {ws : List Int} (hbB : b < B) (hb : b < w.heap.size) (hc : ∀ i, i < ws.length → w.cell? ⟨b, off + i, none⟩ = some (.int .u64 (wordAt ws i))) (hB : Below B w W) : b < W.heap.size ∧ ∀ i, i < ws.length → W.cell? ⟨b, off + i, none⟩ = some (.int .u64 (wordAt ws i)) :=
  ⟨Nat.lt_of_lt_of_le hb hB.size, fun i hi => by rw [hB.cell (p := ⟨b, off + i, none⟩) hbB]; exact hc i hi⟩
set_option maxHeartbeats 4000000 in
theorem tileUse_at (b off cw : Nat) (ws : List Int) (semi toh top : Int) (cyc : Bool) (scan old copied serial : Int) (ar : Option Addr) (cr : Nat) (rs : List (Int × Int)) (B Bp sv bl cl bs bc : Nat) (vp : Value) (nc : Nat) (hcop : Int → Bool) (S T : Nat) (w : World) (hS : Surv B Bp w sv bl bs bc ws.length #[.slice (some ⟨b, off, none⟩) ws.length cw, .int .i64 semi, .int .i64 toh, .int .i64 top, .bool cyc, .int .i64 scan, .int .i64 old, .int .i64 copied, .int .i64 serial, .slice ar rs.length cr, .slice (some ⟨bl, 0, none⟩) ws.length cl, vp, .map (some bs), .map (some bc)] vp (leadU []) [] 0 nc (serH ws []) hcop) (hb : b < w.heap.size) (hbB : b < B) (hc : ∀ i, i < ws.length → w.cell? ⟨b, off + i, none⟩ = some (.int .u64 (wordAt ws i))) (hn : ws.length ≤ 8000) (hw : Words64 ws) (t0 : 0 ≤ toh) (t1 : toh ≤ 1) (s0 : 256 ≤ semi) (s1 : semi ≤ 4000) (hF : toh * semi + 1 = S) (hT : top = T) (hST : S ≤ T) (hTn : T ≤ ws.length) :
    Calls Tryz.prog 133 #[.pointer (some ⟨sv, 0, none⟩)] w fun e w' => ∃ q, e = .returned (.bool q) ∧ (q = true ↔ GoodUse ws serial S T) ∧ Below B w w' ∧ (q = true → ∃ L vp', Chain (nx1 ws serial) S T L ∧ (sersL ws L).Nodup ∧ Surv B Bp w' sv bl bs bc ws.length ((fun vp => #[.slice (some ⟨b, off, none⟩) ws.length cw, .int .i64 semi, .int .i64 toh, .int .i64 top, .bool cyc, .int .i64 scan, .int .i64 old, .int .i64 copied, .int .i64 serial, .slice ar rs.length cr, .slice (some ⟨bl, 0, none⟩) ws.length cl, vp, .map (some bs), .map (some bc)]) vp') vp' (leadU L) L L.length nc (serH ws L) hcop) := by
  have HF : Hid (toh * semi + 1 = (S : Int)) := hF
  have HT : Hid (top = (T : Int)) := hT
  have hBw : B ≤ w.heap.size := by have := hS.ge; have := hS.lt; have := hS.size; omega
  have hn' : ws.length ≤ 1048576 := by omega
  have KS := hS.cells
  have lsv := hS.lsv
  have HC : Hid (∀ i, i < ws.length → w.cell? ⟨b, off + i, none⟩ = some (.int .u64 (wordAt ws i))) := hc
  have KP : ∀ W, Below w.heap.size w W → (Below w.heap.size w W ∧ (∀ i, W.cell? ⟨sv, i, none⟩ = (#[.slice (some ⟨b, off, none⟩) ws.length cw, .int .i64 semi, .int .i64 toh, .int .i64 top, .bool cyc, .int .i64 scan, .int .i64 old, .int .i64 copied, .int .i64 serial, .slice ar rs.length cr, .slice (some ⟨bl, 0, none⟩) ws.length cl, vp, .map (some bs), .map (some bc)] : Array Value)[i]?)) := fun W hW => ⟨hW, has_below KS hW lsv⟩
  clear hF hc hT
  go_enter Tryz.func133, Tryz.ntmps133
  go_wp2
  have b1' := (Below.refl w.heap.size w).drew
  go_cut [3] from 4 to 13 (fun s3 wc => s3 = .int .i64 (S : Int) ∧ Below w.heap.size w wc)
  case first =>
    go_region_held3 (fun W => Below w.heap.size w W ∧ (∀ i, W.cell? ⟨sv, i, none⟩ = (#[.slice (some ⟨b, off, none⟩) ws.length cw, .int .i64 semi, .int .i64 toh, .int .i64 top, .bool cyc, .int .i64 scan, .int .i64 old, .int .i64 copied, .int .i64 serial, .slice ar rs.length cr, .slice (some ⟨bl, 0, none⟩) ws.length cl, vp, .map (some bs), .map (some bc)] : Array Value)[i]?)) (first | exact KP _ (by assumption) | exact KP _ b1') (first | (go_at_call 139; refine (begin_is _ _ _ _ _ _ _ _ _ _ _ _ _ _ toh (S : Int) _ t0 t1 s0 s1 HF.out).mono ?_; rintro e w' ⟨rfl, hb⟩; have hB3 := below_next (w := w) (And.left (by assumption)) hb; clear hb))
    all_goals (go_wp2_with fail; go_meet; exact ⟨rfl, by assumption⟩)
  case rest =>
    obtain ⟨rfl, hBc⟩ := hcut
    have Sc := hS.below hBc
    have Bc := below_from hBc hBw
    clear KP KS b1' hS
    go_wp2
    go_loopw [3] (fun u3 wr => ∃ (P : Nat) (L : List Nat) (vp' : Value), u3 = .int .i64 (P : Int) ∧ P ≤ T + 257 ∧ Chain (nx1 ws serial) S P L ∧ (sersL ws L).Nodup ∧ (GoodUse ws serial S T ↔ GoodFrom ws serial P T L) ∧ Surv B Bp wr sv bl bs bc ws.length ((fun vp => #[.slice (some ⟨b, off, none⟩) ws.length cw, .int .i64 semi, .int .i64 toh, .int .i64 top, .bool cyc, .int .i64 scan, .int .i64 old, .int .i64 copied, .int .i64 serial, .slice ar rs.length cr, .slice (some ⟨bl, 0, none⟩) ws.length cl, vp, .map (some bs), .map (some bc)]) vp') vp' (leadU L) L L.length nc (serH ws L) hcop ∧ Below B w wr) (fun u3 _ => T + 300 - (intOf u3).toNat)
    case atStart => exact ⟨S, [], vp, rfl, by omega, .nil _, by simp [sersL], by unfold GoodUse GoodFrom; simp, Sc, Bc⟩
    case round =>
      obtain ⟨P, L, vp', rfl, hPT, hCh, hnd, hgo, hR, hB⟩ := hrel
      have HG : Hid (GoodUse ws serial S T ↔ GoodFrom ws serial P T L) := hgo
      have HCH : Hid (Chain (nx1 ws serial) S P L) := hCh
      have HND : Hid ((sersL ws L).Nodup) := hnd
      have hlen := hCh.len
      clear hgo hCh hnd Sc
      have KR := hR.cells
      have CR := arx_from hbB hb HC.out hB
      have hfr : (fun vp => (#[.slice (some ⟨b, off, none⟩) ws.length cw, .int .i64 semi, .int .i64 toh, .int .i64 top, .bool cyc, .int .i64 scan, .int .i64 old, .int .i64 copied, .int .i64 serial, .slice ar rs.length cr, .slice (some ⟨bl, 0, none⟩) ws.length cl, vp, .map (some bs), .map (some bc)] : Array Value)) vp' = (fun vp => (#[.slice (some ⟨b, off, none⟩) ws.length cw, .int .i64 semi, .int .i64 toh, .int .i64 top, .bool cyc, .int .i64 scan, .int .i64 old, .int .i64 copied, .int .i64 serial, .slice ar rs.length cr, .slice (some ⟨bl, 0, none⟩) ws.length cl, vp, .map (some bs), .map (some bc)] : Array Value)) vp' := rfl
      obtain ⟨vq, hvq⟩ : ∃ vq, vq = vp' := ⟨_, rfl⟩
      subst hvq
      by_cases hlt : P < T
      · have hltd : (P : Int) < top := by rw [HT.out]; omega
        have hPn : P < ws.length := by omega
        by_cases hE : EnterOk ws serial (serH ws L) P
        · have hstep := goodFrom_step hE hlt
          have HST : Hid (GoodUse ws serial S T ↔ GoodFrom ws serial (P + (rdS (wordAt ws P)).toNat + 1) T (L ++ [P])) := HG.out.trans hstep
          have HCN : Hid (Chain (nx1 ws serial) S (P + (rdS (wordAt ws P)).toNat + 1) (L ++ [P])) := HCH.out.snoc (enter_nx hE)
          have HNN : Hid ((sersL ws (L ++ [P])).Nodup) := enter_nodup hE HND.out
          have HE : Hid (EnterOk ws serial (serH ws L) P) := hE
          have hsb := rdS_bound (wordAt ws P)
          clear hE hstep
          go_wp2_with (first | (go_at_call 166; refine (enter_at b off cw ws semi toh top cyc scan old copied serial ar cr rs B Bp sv bl cl bs bc _ (leadU L) L L.length nc (serH ws L) hcop _ P _ hR CR.1 hbB CR.2 hn' hw (by omega) (by omega) rfl hPn).mono ?_; rintro e w4 ⟨q, rfl, hq, b4, _, s4⟩; obtain rfl : q = true := hq.2 HE.out; clear hq; obtain ⟨v4, S4⟩ := s4 rfl; rw [leadU_snoc, serH_snoc] at S4; have hB4 := hB.trans b4; have C4 := arx_from hbB hb HC.out hB4) | (go_at_call 167; refine (span_at b off cw ws semi toh top cyc scan old copied serial ar cr rs sv bl cl bs bc v4 (leadU (L ++ [P])) _ P P _ S4.lsv S4.cells S4.lbl S4.leads C4.1 C4.2 hn' hw rfl hPn (by simp [leadU]) hPn).mono ?_; rintro e w5 ⟨rfl, b5⟩; have S5 := S4.below b5; have hB5 : Below B w w5 := hB4.trans (below_from b5 (by have := S4.size; have := S4.lt; have := S4.ge; omega))))
          have eP : (P : Int) + (rdS (wordAt ws P) + 1) = ((P + (rdS (wordAt ws P)).toNat + 1 : Nat) : Int) := by omega
          first
            | (refine ⟨⟨P + (rdS (wordAt ws P)).toNat + 1, L ++ [P], v4, by rw [← eP], by omega, HCN.out, HNN.out, HST.out, by simpa using S5, hB5⟩, by simp [intOf]; omega⟩)
            | (go_roundw
               case rel => exact ⟨P + (rdS (wordAt ws P)).toNat + 1, L ++ [P], v4, by rw [← eP], by omega, HCN.out, HNN.out, HST.out, by simpa using S5, hB5⟩
               case measure => simp [intOf]; omega)
        · have HNO : Hid (¬ GoodUse ws serial S T) := fun g => goodFrom_no hE hlt (HG.out.1 g)
          have HE : Hid (¬ EnterOk ws serial (serH ws L) P) := hE
          clear hE
          go_wp2_with (go_at_call 166; refine (enter_at b off cw ws semi toh top cyc scan old copied serial ar cr rs B Bp sv bl cl bs bc _ (leadU L) L L.length nc (serH ws L) hcop _ P _ hR CR.1 hbB CR.2 hn' hw (by omega) (by omega) rfl hPn).mono ?_; rintro e w4 ⟨q, rfl, hq, b4, _, s4⟩; obtain rfl : q = false := (by cases q with | false => rfl | true => exact absurd (hq.1 rfl) HE.out); clear hq s4)
          go_ret
          exact ⟨false, rfl, ⟨fun g => by simp at g, fun g => absurd g HNO.out⟩, hB.trans b4, fun g => by simp at g⟩
      · by_cases he : P = T
        · have hed : decide ((P : Int) < top) = false := decide_eq_false (by rw [HT.out]; omega)
          have heq : ((P : Int) == top) = true := by rw [HT.out]; simp; omega
          have HGG : Hid (GoodUse ws serial S T) := HG.out.2 (by rw [he]; exact goodFrom_end _ _ _ _ HND.out)
          have HCT : Hid (Chain (nx1 ws serial) S T L) := by show Chain (nx1 ws serial) S T L; rw [← he]; exact HCH.out
          clear he hlt
          go_wp2
          go_ret
          first
            | exact ⟨true, rfl, ⟨fun _ => HGG.out, fun _ => rfl⟩, hB, fun _ => ⟨L, _, HCT.out, HND.out, hR⟩⟩
            | exact Or.inr ⟨rfl, HGG.out, hB, L, HCT.out, HND.out, _, hR⟩
            | exact Or.inr ⟨rfl, HGG.out, hB, L, _, HCT.out, HND.out, hR⟩
        · have hed : decide ((P : Int) < top) = false := decide_eq_false (by rw [HT.out]; omega)
          have heq : ((P : Int) == top) = false := by rw [HT.out]; simp; omega
          have HNO : Hid (¬ GoodUse ws serial S T) := fun g => goodFrom_past (by omega) (HG.out.1 g)
          clear he hlt
          go_wp2
          go_ret
          first
            | exact ⟨false, rfl, ⟨fun g => by simp at g, fun g => absurd g HNO.out⟩, hB, fun g => by simp at g⟩
            | exact Or.inl ⟨rfl, HNO.out, hB⟩
end Go.Proofs.YtaapiedminakcaaGreat
