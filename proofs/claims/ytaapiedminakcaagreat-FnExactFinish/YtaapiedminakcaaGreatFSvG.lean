/- - -/
import Derived.Test.YtaapiedminakcaaGreatFSvE
import Derived.Test.YtaapiedminakcaaGreatFOkA
namespace Go.Proofs.YtaapiedminakcaaGreat
set_option maxRecDepth 20000
open Go.RowKit Go.Maps
set_option linter.unusedSimpArgs false
set_option linter.unusedVariables false
def zm (ws : List Int) (O : List Nat) : List Nat := O.filter (fun p => !zak ws p)
def zp (ws : List Int) (L O : List Nat) (i : Nat) : Int := if i ∈ O then (if zak ws i = true then fwP (za ws i) else (i : Int)) else zcc L i
def zbl (ws : List Int) (O : List Nat) (z : Int) : Bool := decide (z ∈ (tgs ws O).map (fun q : Nat => (q : Int)))
theorem zpm {ws : List Int} {O : List Nat} {p : Nat} (h : zak ws p = true) : zm ws (O ++ [p]) = zm ws O := by simp [zm, h]
theorem zpn {ws : List Int} {O : List Nat} {p : Nat} (h : zak ws p = false) : zm ws (O ++ [p]) = zm ws O ++ [p] := by simp [zm, h]
theorem zuj {ws : List Int} {L O : List Nat} {p : Nat} (h : zak ws p = true) : (fun i => if i = p then fwP (za ws p) else zp ws L O i) = zp ws L (O ++ [p]) := by
 funext i
 unfold zp
 by_cases e : i = p
 · subst e; simp [h]
 · simp [e]
theorem zuk {ws : List Int} {L O : List Nat} {p : Nat} (h : zak ws p = false) : (fun i => if i = p then (p : Int) else zp ws L O i) = zp ws L (O ++ [p]) := by
 funext i
 unfold zp
 by_cases e : i = p
 · subst e; simp [h]
 · simp [e]
theorem zm5 (x : Int) : ((fwP x).toNat : Int) = fwP x := by have := zjy x; omega
theorem zvq {ws : List Int} {O : List Nat} {p : Nat} (h : zak ws p = true) : (fun z => decide (z = fwP (za ws p)) || zbl ws O z) = zbl ws (O ++ [p]) := by
 funext z
 unfold zbl
 rw [zgq h]
 have e := zm5 (za ws p)
 simp only [zt, List.map_append, List.map_cons, List.map_nil, List.mem_append, List.mem_singleton, e]
 rw [Bool.eq_iff_iff]
 simp
 exact Or.comm
theorem zvr {ws : List Int} {O : List Nat} {p : Nat} (h : zak ws p = false) : zbl ws (O ++ [p]) = zbl ws O := by
 funext z
 unfold zbl
 rw [zhr h]
theorem zpo {ws : List Int} {p : Nat} (h : za5 (za ws p) = true) : zak ws p = true := by
 have : zx (za ws p) = false := by
  rw [<- Bool.not_eq_true]
  intro g
  rw [zfc g] at h
  simp at h
 simp [zak, h, this]
theorem zh8 {ws : List Int} {p : Nat} (h : zx (za ws p) = true) : zak ws p = false := by simp [zak, h]
theorem zg6 {ws : List Int} {sr : Int} {S T : Nat} {L O : List Nat} {y : Int} (hL : zn (nx1 ws sr) S T L) (hS : 1 <= S) (hO : ∀ p ∈ O, ¬ (S <= p /\ p < T)) (hy : 0 <= y) : zb1 (S : Int) (T : Int) (zp ws L O) y = true ↔ y.toNat ∈ L := by
 unfold zb1
 simp only [Bool.and_eq_true, decide_eq_true_eq, beq_iff_eq]
 constructor
 · rintro ⟨⟨h1, h2⟩, h3⟩
   have hn : y.toNat ∉ O := fun g => hO _ g (by omega)
   unfold zp zcc at h3
   rw [if_neg hn] at h3
   by_cases g : y.toNat ∈ L
   · exact g
   · rw [if_neg g] at h3; omega
 · intro h
   have := hL.mem _ h
   have hn : y.toNat ∉ O := fun g => hO _ g (by omega)
   refine ⟨by omega, ?_⟩
   unfold zp zcc
   rw [if_neg hn, if_pos h]
   omega
def zed (ws : List Int) (sr : Int) (L : List Nat) (F Od : Nat) (cp : Int) : Prop := ∃ O, zn (nx2 ws sr L) F Od O /\ (tgs ws O).Nodup /\ (zz ws (L ++ zm ws O)).Nodup /\ (zab ws O : Int) = cp
def zcf (ws : List Int) (sr : Int) (L : List Nat) (P Od : Nat) (cp : Int) (O : List Nat) : Prop := ∃ M, zn (nx2 ws sr L) P Od M /\ (tgs ws (O ++ M)).Nodup /\ (zz ws (L ++ zm ws (O ++ M))).Nodup /\ (zab ws (O ++ M) : Int) = cp
theorem zrc {ws : List Int} {sr : Int} {L : List Nat} {P Od : Nat} {cp : Int} {O : List Nat} (h : Od < P) : ¬ zcf ws sr L P Od cp O := fun ⟨M, hM, _⟩ => by have := hM.le; omega
theorem zs8 {ws : List Int} {sr : Int} {L : List Nat} {Od : Nat} {cp : Int} {O : List Nat} (h1 : (tgs ws O).Nodup) (h2 : (zz ws (L ++ zm ws O)).Nodup) : zcf ws sr L Od Od cp O ↔ (zab ws O : Int) = cp := by
 constructor
 · rintro ⟨M, hM, _, _, hs⟩
   cases M with
   | nil => simpa using hs
   | cons x M =>
     obtain ⟨rfl, s, hs', t⟩ := hM
     have := t.le
     omega
 · exact fun h => ⟨[], .nil _, by simpa using h1, by simpa using h2, by simpa using h⟩
theorem zjx {ws : List Int} {sr : Int} {L : List Nat} {P Od s : Nat} {cp : Int} {O : List Nat} (hs : nx2 ws sr L P = some s) (hP : P < Od) : zcf ws sr L P Od cp O ↔ zcf ws sr L (P + s + 1) Od cp (O ++ [P]) := by
 constructor
 · rintro ⟨M, hM, r⟩
   cases M with
   | nil =>
     have hM' : Od = P := hM
     omega
   | cons x M =>
     obtain ⟨rfl, s', hs', t⟩ := hM
     rw [hs] at hs'
     cases hs'
     exact ⟨_, t, by simpa using r⟩
 · rintro ⟨M, hM, r⟩
   exact ⟨P :: M, .cons hs hM, by simpa using r⟩
theorem zs9 {ws : List Int} {sr : Int} {S T : Nat} {L O : List Nat} {P : Nat} (hL : zn (nx1 ws sr) S T L) (hS : 1 <= S) (hO : ∀ p ∈ O, ¬ (S <= p /\ p < T)) (h : zda ws S T (zp ws L O) (zbl ws O) P) (hn : (tgs ws O).Nodup) :
 zak ws P = true /\ nx2 ws sr L P = some (rdS (za ws (zt ws P))).toNat /\ zt ws P ∈ L /\ (tgs ws (O ++ [P])).Nodup := by
 have hf := zpo h.1
 have hm : zt ws P ∈ L := (zg6 hL hS hO (zjy _).1).1 h.2.1
 have hr : zx (za ws P) = false := by simp only [zak, Bool.and_eq_true, Bool.not_eq_true'] at hf; exact hf.1
 refine ⟨hf, ?_, hm, ?_⟩
 · unfold nx2
   rw [if_neg (by simp [hr]), if_pos ⟨h.1, hm⟩]
 · rw [zgq hf, List.nodup_append]
   refine ⟨hn, by simp, ?_⟩
   intro a ha c hc e
   simp at hc
   subst hc
   subst e
   have := h.2.2
   unfold zbl at this
   have := of_decide_eq_false this
   exact this (List.mem_map.2 ⟨_, ha, zm5 _⟩)
theorem zrd {ws : List Int} {sr : Int} {S T : Nat} {L O M : List Nat} {P s : Nat} (hL : zn (nx1 ws sr) S T L) (hS : 1 <= S) (hO : ∀ p ∈ O, ¬ (S <= p /\ p < T)) (h : ¬ zda ws S T (zp ws L O) (zbl ws O) P) (hs : nx2 ws sr L P = some s) (hn : (tgs ws (O ++ P :: M)).Nodup) : zx (za ws P) = true := by
 by_cases hr : zx (za ws P) = true
 · exact hr
 · rw [Bool.not_eq_true] at hr
   obtain ⟨g1, g2, _⟩ := zfd hs hr
   exfalso
   refine h ⟨g1, (zg6 hL hS hO (zjy _).1).2 g2, ?_⟩
   unfold zbl
   apply decide_eq_false
   intro hm
   obtain ⟨a, ha, e⟩ := List.mem_map.1 hm
   have ea : a = zt ws P := by unfold zt; omega
   subst ea
   have e2 : O ++ P :: M = (O ++ [P]) ++ M := by simp
   rw [e2] at hn
   unfold tgs at hn
   rw [List.filter_append, List.map_append] at hn
   have hn2 := (List.nodup_append.1 hn).1
   have hn3 : (tgs ws (O ++ [P])).Nodup := hn2
   rw [zgq (zpo g1)] at hn3
   exact (List.nodup_append.1 hn3).2.2 _ ha _ (List.mem_singleton.2 rfl) rfl
theorem zy.mono {B Bp : Nat} {w : World} {sv bl bs bc n : Nat} {C : Array Value} {vp : Value} {lead : Nat -> Int} {pl : List Nat} {ns nc ms mc : Nat} {hser hcop : Int -> Bool} (h : zy B Bp w sv bl bs bc n C vp lead pl ns nc hser hcop) (hs : ns <= ms) (hc : nc <= mc) : zy B Bp w sv bl bs bc n C vp lead pl ms mc hser hcop :=
 ⟨h.head, h.row, h.own, h.ser.mono hs, h.cop.mono hc, h.ge, h.lt, h.ne, h.size⟩
theorem zuh (ws : List Int) (O : List Nat) : (zm ws O).length <= O.length := List.length_filter_le _ _
theorem zrb {ws : List Int} {sr : Int} {h : Int -> Bool} {P : Nat} (hE : zcj ws sr h P) : zak ws P = false := zh8 hE.1
theorem zs7 {ws : List Int} {sr : Int} {h : Int -> Bool} {L : List Nat} {P : Nat} (hE : zcj ws sr h P) : nx2 ws sr L P = some (rdS (za ws P)).toNat := by
 unfold nx2
 rw [if_pos hE.1, if_pos hE.2.1]
theorem zui {ws : List Int} {sr : Int} {S T : Nat} {L O : List Nat} {P Od : Nat} {cp : Int} (hL : zn (nx1 ws sr) S T L) (hS : 1 <= S) (hO : ∀ p ∈ O, ¬ (S <= p /\ p < T)) (hF : ¬ zda ws S T (zp ws L O) (zbl ws O) P) (hE : ¬ zcj ws sr (zaz ws (L ++ zm ws O)) P) (hP : P < Od) : ¬ zcf ws sr L P Od cp O := by
 rintro ⟨M, hM, h1, h2, _⟩
 cases M with
 | nil =>
   have hM' : Od = P := hM
   omega
 | cons x M =>
   rename_i hsum'
   obtain ⟨rfl, s, hs, t⟩ := hM
   have hr := zrd hL hS hO hF hs h1
   have g2 := (zg0 hs hr).1
   refine hE ⟨hr, g2, fun h0 => ?_⟩
   unfold zaz
   apply decide_eq_false
   intro hm
   have e : zm ws (O ++ P :: M) = (zm ws O ++ [P]) ++ zm ws M := by simp [zm, zh8 hr]
   rw [e, <- List.append_assoc, <- List.append_assoc, zew, zfl, if_neg h0] at h2
   have h3 := (List.nodup_append.1 h2).1
   exact (List.nodup_append.1 h3).2.2 _ hm _ (List.mem_singleton.2 rfl) rfl
set_option maxHeartbeats 8000000 in
theorem zhw (b off cw : Nat) (ws : List Int) (sm toh top : Int) (cyc : Bool) (sn old cp sr : Int) (ar : Option Addr) (cr : Nat) (rs : List (Int × Int)) (B Bp sv bl cl bs bc : Nat) (vp : Value) (S T F Od : Nat) (L : List Nat) (w : World) (hS : zy B Bp w sv bl bs bc ws.length #[.slice (some ⟨b, off, none⟩) ws.length cw, .int .i64 sm, .int .i64 toh, .int .i64 top, .bool cyc, .int .i64 sn, .int .i64 old, .int .i64 cp, .int .i64 sr, .slice ar rs.length cr, .slice (some ⟨bl, 0, none⟩) ws.length cl, vp, .map (some bs), .map (some bc)] vp (zp ws L []) (L ++ zm ws []) L.length 0 (zaz ws (L ++ zm ws [])) (zbl ws [])) (hb : b < w.heap.size) (hbB : b < B) (hc : ∀ i, i < ws.length -> w.cell? ⟨b, off + i, none⟩ = some (.int .u64 (za ws i))) (hn : ws.length <= 8000) (hw : zg ws) (t0 : 0 <= toh) (t1 : toh <= 1) (s0 : 256 <= sm) (s1 : sm <= 4000) (hSe : toh * sm + 1 = S) (hT : top = T) (hF : (1 - toh) * sm + 1 = F) (hOd : old = Od) (hS1 : 1 <= S) (hTn : T <= ws.length) (hFO : F <= Od) (hOn : Od <= ws.length) (hap : T <= F \/ Od <= S) (hL : zn (nx1 ws sr) S T L) (hLn : (zz ws L).Nodup) :
 Calls Tryz.prog 168 #[.pointer (some ⟨sv, 0, none⟩)] w fun e w' => ∃ q, e = .returned (.bool q) /\ (q = true ↔ zed ws sr L F Od cp) /\ Below B w w' /\ (q = false -> ∃ vp' lead' pl' ns' nc' h1 h2, zy B Bp w' sv bl bs bc ws.length ((fun vp => #[.slice (some ⟨b, off, none⟩) ws.length cw, .int .i64 sm, .int .i64 toh, .int .i64 top, .bool cyc, .int .i64 sn, .int .i64 old, .int .i64 cp, .int .i64 sr, .slice ar rs.length cr, .slice (some ⟨bl, 0, none⟩) ws.length cl, vp, .map (some bs), .map (some bc)]) vp') vp' lead' pl' ns' nc' h1 h2) /\ (q = true -> ∃ O vp', zn (nx2 ws sr L) F Od O /\ (tgs ws O).Nodup /\ (zz ws (L ++ zm ws O)).Nodup /\ (zab ws O : Int) = cp /\ zy B Bp w' sv bl bs bc ws.length ((fun vp => #[.slice (some ⟨b, off, none⟩) ws.length cw, .int .i64 sm, .int .i64 toh, .int .i64 top, .bool cyc, .int .i64 sn, .int .i64 old, .int .i64 cp, .int .i64 sr, .slice ar rs.length cr, .slice (some ⟨bl, 0, none⟩) ws.length cl, vp, .map (some bs), .map (some bc)]) vp') vp' (zp ws L O) (L ++ zm ws O) (L.length + O.length) O.length (zaz ws (L ++ zm ws O)) (zbl ws O)) := by
 have HSe : Hid (toh * sm + 1 = (S : Int)) := hSe
 have HF : Hid ((1 - toh) * sm + 1 = (F : Int)) := hF
 have HT : Hid (top = (T : Int)) := hT
 have HOd : Hid (old = (Od : Int)) := hOd
 have hTl : top <= ws.length := by omega
 have u0 : 0 <= 1 - toh := by omega
 have u1 : 1 - toh <= 1 := by omega
 have hBw : B <= w.heap.size := by have := hS.ge; have := hS.lt; have := hS.size; omega
 have hn' : ws.length <= 1048576 := by omega
 have KS := hS.cells
 have lsv := hS.lsv
 have hLl := hL.len
 have HL : Hid (zn (nx1 ws sr) S T L) := hL
 have HC : Hid (∀ i, i < ws.length -> w.cell? ⟨b, off + i, none⟩ = some (.int .u64 (za ws i))) := hc
 have HLN : Hid ((zz ws L).Nodup) := hLn
 have KP : ∀ W, Below w.heap.size w W -> (Below w.heap.size w W /\ (∀ i, W.cell? ⟨sv, i, none⟩ = (#[.slice (some ⟨b, off, none⟩) ws.length cw, .int .i64 sm, .int .i64 toh, .int .i64 top, .bool cyc, .int .i64 sn, .int .i64 old, .int .i64 cp, .int .i64 sr, .slice ar rs.length cr, .slice (some ⟨bl, 0, none⟩) ws.length cl, vp, .map (some bs), .map (some bc)] : Array Value)[i]?)) := fun W hW => ⟨hW, ze KS hW lsv⟩
 clear hF hc hT hSe hOd hL hLn
 go_enter Tryz.func168, Tryz.ntmps168
 go_wp2
 have b1' := (Below.refl w.heap.size w).drew
 go_cut [3, 4] from 5 to 14 (fun s3 s4 wc => s3 = .int .i64 (F : Int) /\ s4 = .int .i64 0 /\ Below w.heap.size w wc)
 case first =>
  go_region_held3 (fun W => Below w.heap.size w W /\ (∀ i, W.cell? ⟨sv, i, none⟩ = (#[.slice (some ⟨b, off, none⟩) ws.length cw, .int .i64 sm, .int .i64 toh, .int .i64 top, .bool cyc, .int .i64 sn, .int .i64 old, .int .i64 cp, .int .i64 sr, .slice ar rs.length cr, .slice (some ⟨bl, 0, none⟩) ws.length cl, vp, .map (some bs), .map (some bc)] : Array Value)[i]?)) (first | exact KP _ (by assumption) | exact KP _ b1') (first | (go_at_call 149; refine (zf1 _ _ _ _ _ _ _ _ _ _ _ _ _ _ _ t0 t1).mono ?_; rintro e w' ⟨rfl, hb⟩; have hB3 := zc (w := w) (And.left (by assumption)) hb; clear hb) | (go_at_call 139; refine (zdu _ _ _ _ _ _ _ _ _ _ _ _ _ _ (1 - toh) (F : Int) _ u0 u1 s0 s1 HF.out).mono ?_; rintro e w' ⟨rfl, hb⟩; have hB3 := zc (w := w) (And.left (by assumption)) hb; clear hb))
  all_goals (go_wp2_with fail; go_meet; exact ⟨rfl, rfl, by assumption⟩)
 case rest =>
  obtain ⟨rfl, rfl, hBc⟩ := hcut
  have Sc := hS.below hBc
  have Bc := zap hBc hBw
  clear KP KS b1' hS
  go_wp2
  go_loopw [3, 4] (fun u3 u4 wr => ∃ (P : Nat) (O : List Nat) (vp' : Value), u3 = .int .i64 (P : Int) /\ u4 = .int .i64 (zab ws O : Int) /\ P <= Od + 257 /\ zn (nx2 ws sr L) F P O /\ (tgs ws O).Nodup /\ (zz ws (L ++ zm ws O)).Nodup /\ (zed ws sr L F Od cp ↔ zcf ws sr L P Od cp O) /\ (∀ p ∈ O, ¬ (S <= p /\ p < T)) /\ zy B Bp wr sv bl bs bc ws.length ((fun vp => #[.slice (some ⟨b, off, none⟩) ws.length cw, .int .i64 sm, .int .i64 toh, .int .i64 top, .bool cyc, .int .i64 sn, .int .i64 old, .int .i64 cp, .int .i64 sr, .slice ar rs.length cr, .slice (some ⟨bl, 0, none⟩) ws.length cl, vp, .map (some bs), .map (some bc)]) vp') vp' (zp ws L O) (L ++ zm ws O) (L.length + O.length) O.length (zaz ws (L ++ zm ws O)) (zbl ws O) /\ Below B w wr) (fun u3 _ _ => Od + 300 - (intOf u3).toNat)
  case atStart => exact ⟨F, [], vp, rfl, rfl, by omega, .nil _, by simp [tgs], by simpa [zm] using HLN.out, by unfold zed zcf; simp, by simp, Sc, Bc⟩
  case round =>
   obtain ⟨P, O, vq, rfl, rfl, hPT, hCh, hnt, hns, hgo, hO, hR, hB⟩ := hrel
   have hlen := hCh.len
   have hsum := zfe hCh
   have hhl := zuh ws O
   have HG : Hid (zed ws sr L F Od cp ↔ zcf ws sr L P Od cp O) := hgo
   have HCH : Hid (zn (nx2 ws sr L) F P O) := hCh
   have HNT : Hid ((tgs ws O).Nodup) := hnt
   have HNS : Hid ((zz ws (L ++ zm ws O)).Nodup) := hns
   have HOO : Hid (∀ p ∈ O, ¬ (S <= p /\ p < T)) := hO
   clear hgo hCh hnt hns hO Sc
   have KR := hR.cells
   have CR := zd4 hbB hb HC.out hB
   have hpl : (L ++ zm ws O).length <= 10000 := by simp; omega
   by_cases hlt : P < Od
   · have hltd : (P : Int) < old := by rw [HOd.out]; omega
     have hPn : P < ws.length := by omega
     have HON : Hid (∀ p ∈ O ++ [P], ¬ (S <= p /\ p < T)) := fun p hp => by
      rcases List.mem_append.1 hp with h | h
      · exact HOO.out p h
      · simp at h; subst h; have := HCH.out.le; omega
     by_cases hFo : zda ws S T (zp ws L O) (zbl ws O) P
     · obtain ⟨f1, f2, f3, f4⟩ := zs9 HL.out hS1 HOO.out hFo HNT.out
       have hq := (HL.out.mem _ f3).2.1
       have HFo : Hid (zda ws S top (zp ws L O) (zbl ws O) P) := by show zda ws S top (zp ws L O) (zbl ws O) P; rw [HT.out]; exact hFo
       have HST : Hid (zed ws sr L F Od cp ↔ zcf ws sr L (P + (rdS (za ws (zt ws P))).toNat + 1) Od cp (O ++ [P])) := HG.out.trans (zjx f2 hlt)
       have HCN : Hid (zn (nx2 ws sr L) F (P + (rdS (za ws (zt ws P))).toNat + 1) (O ++ [P])) := HCH.out.snoc f2
       have HNN : Hid ((tgs ws (O ++ [P])).Nodup) := f4
       have HNS2 : Hid ((zz ws (L ++ zm ws (O ++ [P]))).Nodup) := by show (zz ws (L ++ zm ws (O ++ [P]))).Nodup; rw [zpm f1]; exact HNS.out
       have hsb := zau (za ws (zt ws P))
       have hsn := zko (O := O) f1
       have hqn : zt ws P < ws.length := by omega
       have hld : zp ws L (O ++ [P]) P = (zt ws P : Int) := by have e := zm5 (za ws P); unfold zp zt; rw [if_pos (by simp), if_pos f1, e]
       have HLD : Hid (zp ws L (O ++ [P]) P = (zt ws P : Int)) := hld
       have HF1 : Hid (zak ws P = true) := f1
       clear hFo f1 f2 f3 f4 hld
       go_wp2_with (first | (go_at_call 190; refine (zhx b off cw ws sm toh top cyc sn old cp sr ar cr rs B Bp sv bl cl bs bc vq (zp ws L O) (L ++ zm ws O) (L.length + O.length) O.length (zaz ws (L ++ zm ws O)) (zbl ws O) _ (S : Int) P _ hR CR.1 hbB CR.2 hn' hw (by omega) t0 t1 s0 s1 HSe.out hTl rfl hPn).mono ?_; rintro e w4 (⟨hbad, _⟩ | ⟨_, rfl, b4, S4⟩); exact absurd HFo.out hbad; rw [zuj HF1.out, zvq HF1.out] at S4; have hB4 := hB.trans b4; have C4 := zd4 hbB hb HC.out hB4) | (go_at_call 167; first | (refine (zh9 b off cw ws sm toh top cyc sn old cp sr ar cr rs sv bl cl bs bc vq (zp ws L (O ++ [P])) _ P (zt ws P) _ S5.lsv S5.cells S5.lbl S5.leads C5.1 C5.2 hn' hw rfl hPn HLD.out hqn).mono ?_; rintro e w6 ⟨rfl, b6⟩; have S6 := S5.below b6; have hB6 : Below B w w6 := hB5.trans (zap b6 (by have := S5.size; have := S5.lt; have := S5.ge; omega))) | (refine (zh9 b off cw ws sm toh top cyc sn old cp sr ar cr rs sv bl cl bs bc vq (zp ws L (O ++ [P])) _ P (zt ws P) _ S4.lsv S4.cells S4.lbl S4.leads C4.1 C4.2 hn' hw rfl hPn HLD.out hqn).mono ?_; rintro e w5 ⟨rfl, b5⟩; have S5 := S4.below b5; have hB5 : Below B w w5 := hB4.trans (zap b5 (by have := S4.size; have := S4.lt; have := S4.ge; omega)); have C5 := zd4 hbB hb HC.out hB5)))
       have eP : (P : Int) + (rdS (za ws (zt ws P)) + 1) = ((P + (rdS (za ws (zt ws P))).toNat + 1 : Nat) : Int) := by omega
       have eS : (zab ws O : Int) + (rdS (za ws (zt ws P)) + 1) = ((zab ws (O ++ [P]) : Nat) : Int) := by omega
       have S7 : zy B Bp w6 sv bl bs bc ws.length ((fun vp => #[.slice (some ⟨b, off, none⟩) ws.length cw, .int .i64 sm, .int .i64 toh, .int .i64 top, .bool cyc, .int .i64 sn, .int .i64 old, .int .i64 cp, .int .i64 sr, .slice ar rs.length cr, .slice (some ⟨bl, 0, none⟩) ws.length cl, vp, .map (some bs), .map (some bc)]) vq) vq (zp ws L (O ++ [P])) (L ++ zm ws (O ++ [P])) (L.length + (O ++ [P]).length) (O ++ [P]).length (zaz ws (L ++ zm ws (O ++ [P]))) (zbl ws (O ++ [P])) := by
        rw [zpm HF1.out]
        exact S6.mono (by simp) (by simp)
       first
        | (refine ⟨⟨P + (rdS (za ws (zt ws P))).toNat + 1, O ++ [P], vq, by rw [<- eP], by rw [<- eS], by omega, HCN.out, HNN.out, HNS2.out, HST.out, HON.out, S7, hB6⟩, by simp [intOf]; omega⟩)
        | (go_roundw
           case rel => exact ⟨P + (rdS (za ws (zt ws P))).toNat + 1, O ++ [P], vq, by rw [<- eP], by rw [<- eS], by omega, HCN.out, HNN.out, HNS2.out, HST.out, HON.out, S7, hB6⟩
           case measure => simp [intOf]; omega)
     · have HFo : Hid (¬ zda ws S top (zp ws L O) (zbl ws O) P) := by show ¬ zda ws S top (zp ws L O) (zbl ws O) P; rw [HT.out]; exact hFo
       by_cases hE : zcj ws sr (zaz ws (L ++ zm ws O)) P
       · have f1 := zrb hE
         have f2 := zs7 (L := L) hE
         have HST : Hid (zed ws sr L F Od cp ↔ zcf ws sr L (P + (rdS (za ws P)).toNat + 1) Od cp (O ++ [P])) := HG.out.trans (zjx f2 hlt)
         have HCN : Hid (zn (nx2 ws sr L) F (P + (rdS (za ws P)).toNat + 1) (O ++ [P])) := HCH.out.snoc f2
         have HNN : Hid ((tgs ws (O ++ [P])).Nodup) := by show (tgs ws (O ++ [P])).Nodup; rw [zhr f1]; exact HNT.out
         have HNS2 : Hid ((zz ws (L ++ zm ws (O ++ [P]))).Nodup) := by show (zz ws (L ++ zm ws (O ++ [P]))).Nodup; rw [zpn f1, <- List.append_assoc]; exact zim hE HNS.out
         have HE : Hid (zcj ws sr (zaz ws (L ++ zm ws O)) P) := hE
         have hsb := zau (za ws P)
         have hsn := zkp (O := O) f1
         have hld : zp ws L (O ++ [P]) P = (P : Int) := by unfold zp; rw [if_pos (by simp), if_neg (by simp [f1])]
         have HLD : Hid (zp ws L (O ++ [P]) P = (P : Int)) := hld
         have HF1 : Hid (zak ws P = false) := f1
         clear hFo f1 f2 hld hE
         go_wp2_with (first | (go_at_call 190; refine (zhx b off cw ws sm toh top cyc sn old cp sr ar cr rs B Bp sv bl cl bs bc vq (zp ws L O) (L ++ zm ws O) (L.length + O.length) O.length (zaz ws (L ++ zm ws O)) (zbl ws O) _ (S : Int) P _ hR CR.1 hbB CR.2 hn' hw (by omega) t0 t1 s0 s1 HSe.out hTl rfl hPn).mono ?_; rintro e w4 (⟨_, rfl, b4⟩ | ⟨hbad, _⟩); rotate_left; exact absurd hbad HFo.out; have S4 := hR.below b4; have hB4 : Below B w w4 := hB.trans (zap b4 (by have := hR.size; have := hR.lt; have := hR.ge; omega)); have C4 := zd4 hbB hb HC.out hB4) | (go_at_call 166; refine (zg7 b off cw ws sm toh top cyc sn old cp sr ar cr rs B Bp sv bl cl bs bc vq (zp ws L O) (L ++ zm ws O) (L.length + O.length) O.length (zaz ws (L ++ zm ws O)) (zbl ws O) _ P _ S4 C4.1 hbB C4.2 hn' hw (by omega) hpl rfl hPn).mono ?_; rintro e w5 ⟨q, rfl, hq, b5, _, s5⟩; obtain rfl : q = true := hq.2 HE.out; clear hq; obtain ⟨v5, S5⟩ := s5 rfl; clear s5; rw [zuk HF1.out, zk7] at S5; have hB5 := hB4.trans b5; have C5 := zd4 hbB hb HC.out hB5) | (go_at_call 167; refine (zh9 b off cw ws sm toh top cyc sn old cp sr ar cr rs sv bl cl bs bc v5 (zp ws L (O ++ [P])) _ P P _ S5.lsv S5.cells S5.lbl S5.leads C5.1 C5.2 hn' hw rfl hPn HLD.out hPn).mono ?_; rintro e w6 ⟨rfl, b6⟩; have S6 := S5.below b6; have hB6 : Below B w w6 := hB5.trans (zap b6 (by have := S5.size; have := S5.lt; have := S5.ge; omega))))
         have eP : (P : Int) + (rdS (za ws P) + 1) = ((P + (rdS (za ws P)).toNat + 1 : Nat) : Int) := by omega
         have S7 : zy B Bp w6 sv bl bs bc ws.length ((fun vp => #[.slice (some ⟨b, off, none⟩) ws.length cw, .int .i64 sm, .int .i64 toh, .int .i64 top, .bool cyc, .int .i64 sn, .int .i64 old, .int .i64 cp, .int .i64 sr, .slice ar rs.length cr, .slice (some ⟨bl, 0, none⟩) ws.length cl, vp, .map (some bs), .map (some bc)]) v5) v5 (zp ws L (O ++ [P])) (L ++ zm ws (O ++ [P])) (L.length + (O ++ [P]).length) (O ++ [P]).length (zaz ws (L ++ zm ws (O ++ [P]))) (zbl ws (O ++ [P])) := by
          rw [zpn HF1.out, <- List.append_assoc, zvr HF1.out]
          exact S6.mono (by simp; omega) (by simp)
         first
          | (refine ⟨⟨P + (rdS (za ws P)).toNat + 1, O ++ [P], v5, by rw [<- eP], by rw [hsn], by omega, HCN.out, HNN.out, HNS2.out, HST.out, HON.out, S7, hB6⟩, by simp [intOf]; omega⟩)
          | (go_roundw
             case rel => exact ⟨P + (rdS (za ws P)).toNat + 1, O ++ [P], v5, by rw [<- eP], by rw [hsn], by omega, HCN.out, HNN.out, HNS2.out, HST.out, HON.out, S7, hB6⟩
             case measure => simp [intOf]; omega)
       · have HNO : Hid (¬ zed ws sr L F Od cp) := fun g => zui HL.out hS1 HOO.out hFo hE hlt (HG.out.1 g)
         have HE : Hid (¬ zcj ws sr (zaz ws (L ++ zm ws O)) P) := hE
         clear hFo hE
         go_wp2_with (first | (go_at_call 190; refine (zhx b off cw ws sm toh top cyc sn old cp sr ar cr rs B Bp sv bl cl bs bc vq (zp ws L O) (L ++ zm ws O) (L.length + O.length) O.length (zaz ws (L ++ zm ws O)) (zbl ws O) _ (S : Int) P _ hR CR.1 hbB CR.2 hn' hw (by omega) t0 t1 s0 s1 HSe.out hTl rfl hPn).mono ?_; rintro e w4 (⟨_, rfl, b4⟩ | ⟨hbad, _⟩); rotate_left; exact absurd hbad HFo.out; have S4 := hR.below b4; have hB4 : Below B w w4 := hB.trans (zap b4 (by have := hR.size; have := hR.lt; have := hR.ge; omega)); have C4 := zd4 hbB hb HC.out hB4) | (go_at_call 166; refine (zg7 b off cw ws sm toh top cyc sn old cp sr ar cr rs B Bp sv bl cl bs bc vq (zp ws L O) (L ++ zm ws O) (L.length + O.length) O.length (zaz ws (L ++ zm ws O)) (zbl ws O) _ P _ S4 C4.1 hbB C4.2 hn' hw (by omega) hpl rfl hPn).mono ?_; rintro e w5 ⟨q, rfl, hq, b5, f5, s5⟩; obtain rfl : q = false := (by cases q with | false => rfl | true => exact absurd (hq.1 rfl) HE.out); have S5 := S4.below (f5 rfl); clear hq s5 f5))
         go_ret
         exact ⟨false, rfl, ⟨fun g => by simp at g, fun g => absurd g HNO.out⟩, hB4.trans b5, fun _ => ⟨_, _, _, _, _, _, _, S5⟩, fun g => by simp at g⟩
   · have hed : decide ((P : Int) < old) = false := decide_eq_false (by rw [HOd.out]; omega)
     by_cases he : P = Od
     · have heq : ((P : Int) == old) = true := by rw [HOd.out]; simp; omega
       have hge : zcf ws sr L P Od cp O ↔ (zab ws O : Int) = cp := by rw [he]; exact zs8 HNT.out HNS.out
       have HCT : Hid (zn (nx2 ws sr L) F Od O) := by show zn (nx2 ws sr L) F Od O; rw [<- he]; exact HCH.out
       clear he hlt
       by_cases hsm : (zab ws O : Int) = cp
       · have hse : ((zab ws O : Int) == cp) = true := by simpa using hsm
         have HSM : Hid ((zab ws O : Int) = cp) := hsm
         have HGG : Hid (zed ws sr L F Od cp) := HG.out.2 (hge.2 hsm)
         clear hsm hge
         go_wp2
         go_ret
         first
          | exact ⟨true, rfl, ⟨fun _ => HGG.out, fun _ => rfl⟩, hB, (fun g => by simp at g), fun _ => ⟨O, vq, HCT.out, HNT.out, HNS.out, HSM.out, hR⟩⟩
          | exact Or.inr ⟨rfl, HGG.out, hB, O, HCT.out, HNT.out, HNS.out, HSM.out, vq, hR⟩
          | exact Or.inr ⟨rfl, HGG.out, hB, O, vq, HCT.out, HNT.out, HNS.out, HSM.out, hR⟩
       · have hse : ((zab ws O : Int) == cp) = false := by simpa using hsm
         have HNO : Hid (¬ zed ws sr L F Od cp) := fun g => hsm (hge.1 (HG.out.1 g))
         clear hsm hge
         go_wp2
         go_ret
         first
          | exact ⟨false, rfl, ⟨fun g => by simp at g, fun g => absurd g HNO.out⟩, hB, fun _ => ⟨_, _, _, _, _, _, _, hR⟩, fun g => by simp at g⟩
          | exact Or.inl ⟨rfl, HNO.out, hB, _, _, _, _, _, _, _, hR⟩
     · have heq : ((P : Int) == old) = false := by rw [HOd.out]; simp; omega
       have HNO : Hid (¬ zed ws sr L F Od cp) := fun g => zrc (by omega) (HG.out.1 g)
       clear he hlt
       go_wp2
       go_ret
       first
        | exact ⟨false, rfl, ⟨fun g => by simp at g, fun g => absurd g HNO.out⟩, hB, fun _ => ⟨_, _, _, _, _, _, _, hR⟩, fun g => by simp at g⟩
        | exact Or.inl ⟨rfl, HNO.out, hB, _, _, _, _, _, _, _, hR⟩
end Go.Proofs.YtaapiedminakcaaGreat
