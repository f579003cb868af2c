/- How the program tiles the other half. No Go here. -/
import Derived.Test.YtaapiedminakcaaGreatProg
import Derived.Test.YtaapiedminakcaaGreatKSvE
import Derived.Test.YtaapiedminakcaaGreatKOkA
namespace Go.Proofs.YtaapiedminakcaaGreat
set_option maxRecDepth 20000
open Go.RowKit Go.Maps
set_option linter.unusedSimpArgs false
set_option linter.unusedVariables false

/-- Those of the other half that are not forwarded. -/
def hdsO (ws : List Int) (O : List Nat) : List Nat := O.filter (fun p => !isFw ws p)
def leadO (ws : List Int) (L O : List Nat) (i : Nat) : Int := if i ∈ O then (if isFw ws i = true then fwP (wordAt ws i) else (i : Int)) else leadU L i
def copH (ws : List Int) (O : List Nat) (z : Int) : Bool := decide (z ∈ (tgs ws O).map (fun q : Nat => (q : Int)))
theorem hdsO_fw {ws : List Int} {O : List Nat} {p : Nat} (h : isFw ws p = true) : hdsO ws (O ++ [p]) = hdsO ws O := by simp [hdsO, h]
theorem hdsO_hd {ws : List Int} {O : List Nat} {p : Nat} (h : isFw ws p = false) : hdsO ws (O ++ [p]) = hdsO ws O ++ [p] := by simp [hdsO, h]
theorem leadO_fw {ws : List Int} {L O : List Nat} {p : Nat} (h : isFw ws p = true) : (fun i => if i = p then fwP (wordAt ws p) else leadO ws L O i) = leadO ws L (O ++ [p]) := by
  funext i
  unfold leadO
  by_cases e : i = p
  · subst e; simp [h]
  · simp [e]
theorem leadO_hd {ws : List Int} {L O : List Nat} {p : Nat} (h : isFw ws p = false) : (fun i => if i = p then (p : Int) else leadO ws L O i) = leadO ws L (O ++ [p]) := by
  funext i
  unfold leadO
  by_cases e : i = p
  · subst e; simp [h]
  · simp [e]
theorem fw_nat (x : Int) : ((fwP x).toNat : Int) = fwP x := by have := fwP_in x; omega
theorem copH_fw {ws : List Int} {O : List Nat} {p : Nat} (h : isFw ws p = true) : (fun z => decide (z = fwP (wordAt ws p)) || copH ws O z) = copH ws (O ++ [p]) := by
  funext z
  unfold copH
  rw [tgs_fw h]
  have e := fw_nat (wordAt ws p)
  simp only [fwTo, List.map_append, List.map_cons, List.map_nil, List.mem_append, List.mem_singleton, e]
  rw [Bool.eq_iff_iff]
  simp
  exact Or.comm
theorem copH_hd {ws : List Int} {O : List Nat} {p : Nat} (h : isFw ws p = false) : copH ws (O ++ [p]) = copH ws O := by
  funext z
  unfold copH
  rw [tgs_hd h]
theorem isFw_of {ws : List Int} {p : Nat} (h : fwOk (wordAt ws p) = true) : isFw ws p = true := by
  have : rdOk (wordAt ws p) = false := by
    rw [← Bool.not_eq_true]
    intro g
    rw [rd_not_fw g] at h
    simp at h
  simp [isFw, h, this]
theorem isFw_no {ws : List Int} {p : Nat} (h : rdOk (wordAt ws p) = true) : isFw ws p = false := by simp [isFw, h]
/-- What stands in the half in use, by the survey. -/
theorem stands_iff {ws : List Int} {serial : Int} {S T : Nat} {L O : List Nat} {y : Int} (hL : Chain (nx1 ws serial) S T L) (hS : 1 ≤ S) (hO : ∀ p ∈ O, ¬ (S ≤ p ∧ p < T)) (hy : 0 ≤ y) : standsB (S : Int) (T : Int) (leadO ws L O) y = true ↔ y.toNat ∈ L := by
  unfold standsB
  simp only [Bool.and_eq_true, decide_eq_true_eq, beq_iff_eq]
  constructor
  · rintro ⟨⟨h1, h2⟩, h3⟩
    have hn : y.toNat ∉ O := fun g => hO _ g (by omega)
    unfold leadO leadU at h3
    rw [if_neg hn] at h3
    by_cases g : y.toNat ∈ L
    · exact g
    · rw [if_neg g] at h3; omega
  · intro h
    have := hL.mem _ h
    have hn : y.toNat ∉ O := fun g => hO _ g (by omega)
    refine ⟨by omega, ?_⟩
    unfold leadO leadU
    rw [if_neg hn, if_pos h]
    omega
/-- The other half is tiled, no two words lead to one object, and no serial stands twice. -/
def GoodO (ws : List Int) (serial : Int) (L : List Nat) (F Od : Nat) (copied : Int) : Prop := ∃ O, Chain (nx2 ws serial L) F Od O ∧ (tgs ws O).Nodup ∧ (sersL ws (L ++ hdsO ws O)).Nodup ∧ (sumF ws O : Int) = copied
def GoodOFrom (ws : List Int) (serial : Int) (L : List Nat) (P Od : Nat) (copied : Int) (O : List Nat) : Prop := ∃ M, Chain (nx2 ws serial L) P Od M ∧ (tgs ws (O ++ M)).Nodup ∧ (sersL ws (L ++ hdsO ws (O ++ M))).Nodup ∧ (sumF ws (O ++ M) : Int) = copied
theorem goodO_past {ws : List Int} {serial : Int} {L : List Nat} {P Od : Nat} {copied : Int} {O : List Nat} (h : Od < P) : ¬ GoodOFrom ws serial L P Od copied O := fun ⟨M, hM, _⟩ => by have := hM.le; omega
theorem goodO_end {ws : List Int} {serial : Int} {L : List Nat} {Od : Nat} {copied : Int} {O : List Nat} (h1 : (tgs ws O).Nodup) (h2 : (sersL ws (L ++ hdsO ws O)).Nodup) : GoodOFrom ws serial L Od Od copied O ↔ (sumF ws O : Int) = copied := by
  constructor
  · rintro ⟨M, hM, _, _, hs⟩
    cases M with
    | nil => simpa using hs
    | cons x M =>
      obtain ⟨rfl, s, hs', t⟩ := hM
      have := t.le
      omega
  · exact fun h => ⟨[], .nil _, by simpa using h1, by simpa using h2, by simpa using h⟩
theorem goodO_step {ws : List Int} {serial : Int} {L : List Nat} {P Od s : Nat} {copied : Int} {O : List Nat} (hs : nx2 ws serial L P = some s) (hP : P < Od) : GoodOFrom ws serial L P Od copied O ↔ GoodOFrom ws serial L (P + s + 1) Od copied (O ++ [P]) := by
  constructor
  · rintro ⟨M, hM, r⟩
    cases M with
    | nil =>
      have hM' : Od = P := hM
      omega
    | cons x M =>
      obtain ⟨rfl, s', hs', t⟩ := hM
      rw [hs] at hs'
      cases hs'
      exact ⟨_, t, by simpa using r⟩
  · rintro ⟨M, hM, r⟩
    exact ⟨P :: M, .cons hs hM, by simpa using r⟩
/-- follow takes the word. -/
theorem follow_nx {ws : List Int} {serial : Int} {S T : Nat} {L O : List Nat} {P : Nat} (hL : Chain (nx1 ws serial) S T L) (hS : 1 ≤ S) (hO : ∀ p ∈ O, ¬ (S ≤ p ∧ p < T)) (h : FollowOk ws S T (leadO ws L O) (copH ws O) P) (hn : (tgs ws O).Nodup) :
    isFw ws P = true ∧ nx2 ws serial L P = some (rdS (wordAt ws (fwTo ws P))).toNat ∧ fwTo ws P ∈ L ∧ (tgs ws (O ++ [P])).Nodup := by
  have hf := isFw_of h.1
  have hm : fwTo ws P ∈ L := (stands_iff hL hS hO (fwP_in _).1).1 h.2.1
  have hr : rdOk (wordAt ws P) = false := by simp only [isFw, Bool.and_eq_true, Bool.not_eq_true'] at hf; exact hf.1
  refine ⟨hf, ?_, hm, ?_⟩
  · unfold nx2
    rw [if_neg (by simp [hr]), if_pos ⟨h.1, hm⟩]
  · rw [tgs_fw hf, List.nodup_append]
    refine ⟨hn, by simp, ?_⟩
    intro a ha c hc e
    simp at hc
    subst hc
    subst e
    have := h.2.2
    unfold copH at this
    have := of_decide_eq_false this
    exact this (List.mem_map.2 ⟨_, ha, fw_nat _⟩)
/-- follow does not take it: no tiling goes on with a forwarded word there. -/
theorem follow_not {ws : List Int} {serial : Int} {S T : Nat} {L O M : List Nat} {P s : Nat} (hL : Chain (nx1 ws serial) S T L) (hS : 1 ≤ S) (hO : ∀ p ∈ O, ¬ (S ≤ p ∧ p < T)) (h : ¬ FollowOk ws S T (leadO ws L O) (copH ws O) P) (hs : nx2 ws serial L P = some s) (hn : (tgs ws (O ++ P :: M)).Nodup) : rdOk (wordAt ws P) = true := by
  by_cases hr : rdOk (wordAt ws P) = true
  · exact hr
  · rw [Bool.not_eq_true] at hr
    obtain ⟨g1, g2, _⟩ := nx2_fw hs hr
    exfalso
    refine h ⟨g1, (stands_iff hL hS hO (fwP_in _).1).2 g2, ?_⟩
    unfold copH
    apply decide_eq_false
    intro hm
    obtain ⟨a, ha, e⟩ := List.mem_map.1 hm
    have ea : a = fwTo ws P := by unfold fwTo; omega
    subst ea
    have e2 : O ++ P :: M = (O ++ [P]) ++ M := by simp
    rw [e2] at hn
    unfold tgs at hn
    rw [List.filter_append, List.map_append] at hn
    have hn2 := (List.nodup_append.1 hn).1
    have hn3 : (tgs ws (O ++ [P])).Nodup := hn2
    rw [tgs_fw (isFw_of g1)] at hn3
    exact (List.nodup_append.1 hn3).2.2 _ ha _ (List.mem_singleton.2 rfl) rfl
end Go.Proofs.YtaapiedminakcaaGreat

/- The program's tileOther. -/
namespace Go.Proofs.YtaapiedminakcaaGreat
set_option maxRecDepth 20000
open Go.RowKit Go.Maps
set_option linter.unusedSimpArgs false
set_option linter.unusedVariables false

theorem Surv.mono {B Bp : Nat} {w : World} {sv bl bs bc n : Nat} {C : Array Value} {vp : Value} {lead : Nat → Int} {pl : List Nat} {ns nc ms mc : Nat} {hser hcop : Int → Bool} (h : Surv B Bp w sv bl bs bc n C vp lead pl ns nc hser hcop) (hs : ns ≤ ms) (hc : nc ≤ mc) : Surv B Bp w sv bl bs bc n C vp lead pl ms mc hser hcop :=
  ⟨h.head, h.row, h.own, h.ser.mono hs, h.cop.mono hc, h.ge, h.lt, h.ne, h.size⟩
theorem hdsO_len (ws : List Int) (O : List Nat) : (hdsO ws O).length ≤ O.length := List.length_filter_le _ _
theorem enter_isHd {ws : List Int} {serial : Int} {h : Int → Bool} {P : Nat} (hE : EnterOk ws serial h P) : isFw ws P = false := isFw_no hE.1
theorem enter_nx2 {ws : List Int} {serial : Int} {h : Int → Bool} {L : List Nat} {P : Nat} (hE : EnterOk ws serial h P) : nx2 ws serial L P = some (rdS (wordAt ws P)).toNat := by
  unfold nx2
  rw [if_pos hE.1, if_pos hE.2.1]
theorem goodO_no {ws : List Int} {serial : Int} {S T : Nat} {L O : List Nat} {P Od : Nat} {copied : Int} (hL : Chain (nx1 ws serial) S T L) (hS : 1 ≤ S) (hO : ∀ p ∈ O, ¬ (S ≤ p ∧ p < T)) (hF : ¬ FollowOk ws S T (leadO ws L O) (copH ws O) P) (hE : ¬ EnterOk ws serial (serH ws (L ++ hdsO ws O)) P) (hP : P < Od) : ¬ GoodOFrom ws serial L P Od copied O := by
  rintro ⟨M, hM, h1, h2, _⟩
  cases M with
  | nil =>
    have hM' : Od = P := hM
    omega
  | cons x M =>
    rename_i hsum'
    obtain ⟨rfl, s, hs, t⟩ := hM
    have hr := follow_not hL hS hO hF hs h1
    have g2 := (nx2_head hs hr).1
    refine hE ⟨hr, g2, fun h0 => ?_⟩
    unfold serH
    apply decide_eq_false
    intro hm
    have e : hdsO ws (O ++ P :: M) = (hdsO ws O ++ [P]) ++ hdsO ws M := by simp [hdsO, isFw_no hr]
    rw [e, ← List.append_assoc, ← List.append_assoc, sersL_append, sersL_snoc, if_neg h0] at h2
    have h3 := (List.nodup_append.1 h2).1
    exact (List.nodup_append.1 h3).2.2 _ hm _ (List.mem_singleton.2 rfl) rfl
set_option maxHeartbeats 8000000 in
theorem tileOther_at (b off cw : Nat) (ws : List Int) (semi toh top : Int) (cyc : Bool) (scan old copied serial : Int) (ar : Option Addr) (cr : Nat) (rs : List (Int × Int)) (B Bp sv bl cl bs bc : Nat) (vp : Value) (S T F Od : Nat) (L : List Nat) (w : World) (hS : Surv B Bp w sv bl bs bc ws.length #[.slice (some ⟨b, off, none⟩) ws.length cw, .int .i64 semi, .int .i64 toh, .int .i64 top, .bool cyc, .int .i64 scan, .int .i64 old, .int .i64 copied, .int .i64 serial, .slice ar rs.length cr, .slice (some ⟨bl, 0, none⟩) ws.length cl, vp, .map (some bs), .map (some bc)] vp (leadO ws L []) (L ++ hdsO ws []) L.length 0 (serH ws (L ++ hdsO ws [])) (copH ws [])) (hb : b < w.heap.size) (hbB : b < B) (hc : ∀ i, i < ws.length → w.cell? ⟨b, off + i, none⟩ = some (.int .u64 (wordAt ws i))) (hn : ws.length ≤ 8000) (hw : Words64 ws) (t0 : 0 ≤ toh) (t1 : toh ≤ 1) (s0 : 256 ≤ semi) (s1 : semi ≤ 4000) (hSe : toh * semi + 1 = S) (hT : top = T) (hF : (1 - toh) * semi + 1 = F) (hOd : old = Od) (hS1 : 1 ≤ S) (hTn : T ≤ ws.length) (hFO : F ≤ Od) (hOn : Od ≤ ws.length) (hap : T ≤ F ∨ Od ≤ S) (hL : Chain (nx1 ws serial) S T L) (hLn : (sersL ws L).Nodup) :
    Calls Tryz.prog 168 #[.pointer (some ⟨sv, 0, none⟩)] w fun e w' => ∃ q, e = .returned (.bool q) ∧ (q = true ↔ GoodO ws serial L F Od copied) ∧ Below B w w' ∧ (q = false → ∃ vp' lead' pl' ns' nc' h1 h2, Surv B Bp w' sv bl bs bc ws.length ((fun vp => #[.slice (some ⟨b, off, none⟩) ws.length cw, .int .i64 semi, .int .i64 toh, .int .i64 top, .bool cyc, .int .i64 scan, .int .i64 old, .int .i64 copied, .int .i64 serial, .slice ar rs.length cr, .slice (some ⟨bl, 0, none⟩) ws.length cl, vp, .map (some bs), .map (some bc)]) vp') vp' lead' pl' ns' nc' h1 h2) ∧ (q = true → ∃ O vp', Chain (nx2 ws serial L) F Od O ∧ (tgs ws O).Nodup ∧ (sersL ws (L ++ hdsO ws O)).Nodup ∧ (sumF ws O : Int) = copied ∧ Surv B Bp w' sv bl bs bc ws.length ((fun vp => #[.slice (some ⟨b, off, none⟩) ws.length cw, .int .i64 semi, .int .i64 toh, .int .i64 top, .bool cyc, .int .i64 scan, .int .i64 old, .int .i64 copied, .int .i64 serial, .slice ar rs.length cr, .slice (some ⟨bl, 0, none⟩) ws.length cl, vp, .map (some bs), .map (some bc)]) vp') vp' (leadO ws L O) (L ++ hdsO ws O) (L.length + O.length) O.length (serH ws (L ++ hdsO ws O)) (copH ws O)) := by
  have HSe : Hid (toh * semi + 1 = (S : Int)) := hSe
  have HF : Hid ((1 - toh) * semi + 1 = (F : Int)) := hF
  have HT : Hid (top = (T : Int)) := hT
  have HOd : Hid (old = (Od : Int)) := hOd
  have hTl : top ≤ ws.length := by omega
  have u0 : 0 ≤ 1 - toh := by omega
  have u1 : 1 - toh ≤ 1 := by omega
  have hBw : B ≤ w.heap.size := by have := hS.ge; have := hS.lt; have := hS.size; omega
  have hn' : ws.length ≤ 1048576 := by omega
  have KS := hS.cells
  have lsv := hS.lsv
  have hLl := hL.len
  have HL : Hid (Chain (nx1 ws serial) S T L) := hL
  have HC : Hid (∀ i, i < ws.length → w.cell? ⟨b, off + i, none⟩ = some (.int .u64 (wordAt ws i))) := hc
  have HLN : Hid ((sersL ws L).Nodup) := hLn
  have KP : ∀ W, Below w.heap.size w W → (Below w.heap.size w W ∧ (∀ i, W.cell? ⟨sv, i, none⟩ = (#[.slice (some ⟨b, off, none⟩) ws.length cw, .int .i64 semi, .int .i64 toh, .int .i64 top, .bool cyc, .int .i64 scan, .int .i64 old, .int .i64 copied, .int .i64 serial, .slice ar rs.length cr, .slice (some ⟨bl, 0, none⟩) ws.length cl, vp, .map (some bs), .map (some bc)] : Array Value)[i]?)) := fun W hW => ⟨hW, has_below KS hW lsv⟩
  clear hF hc hT hSe hOd hL hLn
  go_enter Tryz.func168, Tryz.ntmps168
  go_wp2
  have b1' := (Below.refl w.heap.size w).drew
  go_cut [3, 4] from 5 to 14 (fun s3 s4 wc => s3 = .int .i64 (F : Int) ∧ s4 = .int .i64 0 ∧ Below w.heap.size w wc)
  case first =>
    go_region_held3 (fun W => Below w.heap.size w W ∧ (∀ i, W.cell? ⟨sv, i, none⟩ = (#[.slice (some ⟨b, off, none⟩) ws.length cw, .int .i64 semi, .int .i64 toh, .int .i64 top, .bool cyc, .int .i64 scan, .int .i64 old, .int .i64 copied, .int .i64 serial, .slice ar rs.length cr, .slice (some ⟨bl, 0, none⟩) ws.length cl, vp, .map (some bs), .map (some bc)] : Array Value)[i]?)) (first | exact KP _ (by assumption) | exact KP _ b1') (first | (go_at_call 149; refine (other_is _ _ _ _ _ _ _ _ _ _ _ _ _ _ _ t0 t1).mono ?_; rintro e w' ⟨rfl, hb⟩; have hB3 := below_next (w := w) (And.left (by assumption)) hb; clear hb) | (go_at_call 139; refine (begin_is _ _ _ _ _ _ _ _ _ _ _ _ _ _ (1 - toh) (F : Int) _ u0 u1 s0 s1 HF.out).mono ?_; rintro e w' ⟨rfl, hb⟩; have hB3 := below_next (w := w) (And.left (by assumption)) hb; clear hb))
    all_goals (go_wp2_with fail; go_meet; exact ⟨rfl, rfl, by assumption⟩)
  case rest =>
    obtain ⟨rfl, rfl, hBc⟩ := hcut
    have Sc := hS.below hBc
    have Bc := below_from hBc hBw
    clear KP KS b1' hS
    go_wp2
    go_loopw [3, 4] (fun u3 u4 wr => ∃ (P : Nat) (O : List Nat) (vp' : Value), u3 = .int .i64 (P : Int) ∧ u4 = .int .i64 (sumF ws O : Int) ∧ P ≤ Od + 257 ∧ Chain (nx2 ws serial L) F P O ∧ (tgs ws O).Nodup ∧ (sersL ws (L ++ hdsO ws O)).Nodup ∧ (GoodO ws serial L F Od copied ↔ GoodOFrom ws serial L P Od copied O) ∧ (∀ p ∈ O, ¬ (S ≤ p ∧ p < T)) ∧ Surv B Bp wr sv bl bs bc ws.length ((fun vp => #[.slice (some ⟨b, off, none⟩) ws.length cw, .int .i64 semi, .int .i64 toh, .int .i64 top, .bool cyc, .int .i64 scan, .int .i64 old, .int .i64 copied, .int .i64 serial, .slice ar rs.length cr, .slice (some ⟨bl, 0, none⟩) ws.length cl, vp, .map (some bs), .map (some bc)]) vp') vp' (leadO ws L O) (L ++ hdsO ws O) (L.length + O.length) O.length (serH ws (L ++ hdsO ws O)) (copH ws O) ∧ Below B w wr) (fun u3 _ _ => Od + 300 - (intOf u3).toNat)
    case atStart => exact ⟨F, [], vp, rfl, rfl, by omega, .nil _, by simp [tgs], by simpa [hdsO] using HLN.out, by unfold GoodO GoodOFrom; simp, by simp, Sc, Bc⟩
    case round =>
      obtain ⟨P, O, vq, rfl, rfl, hPT, hCh, hnt, hns, hgo, hO, hR, hB⟩ := hrel
      have hlen := hCh.len
      have hsum := sum_chain hCh
      have hhl := hdsO_len ws O
      have HG : Hid (GoodO ws serial L F Od copied ↔ GoodOFrom ws serial L P Od copied O) := hgo
      have HCH : Hid (Chain (nx2 ws serial L) F P O) := hCh
      have HNT : Hid ((tgs ws O).Nodup) := hnt
      have HNS : Hid ((sersL ws (L ++ hdsO ws O)).Nodup) := hns
      have HOO : Hid (∀ p ∈ O, ¬ (S ≤ p ∧ p < T)) := hO
      clear hgo hCh hnt hns hO Sc
      have KR := hR.cells
      have CR := arx_from hbB hb HC.out hB
      have hpl : (L ++ hdsO ws O).length ≤ 10000 := by simp; omega
      by_cases hlt : P < Od
      · have hltd : (P : Int) < old := by rw [HOd.out]; omega
        have hPn : P < ws.length := by omega
        have HON : Hid (∀ p ∈ O ++ [P], ¬ (S ≤ p ∧ p < T)) := fun p hp => by
          rcases List.mem_append.1 hp with h | h
          · exact HOO.out p h
          · simp at h; subst h; have := HCH.out.le; omega
        by_cases hFo : FollowOk ws S T (leadO ws L O) (copH ws O) P
        · obtain ⟨f1, f2, f3, f4⟩ := follow_nx HL.out hS1 HOO.out hFo HNT.out
          have hq := (HL.out.mem _ f3).2.1
          have HFo : Hid (FollowOk ws S top (leadO ws L O) (copH ws O) P) := by show FollowOk ws S top (leadO ws L O) (copH ws O) P; rw [HT.out]; exact hFo
          have HST : Hid (GoodO ws serial L F Od copied ↔ GoodOFrom ws serial L (P + (rdS (wordAt ws (fwTo ws P))).toNat + 1) Od copied (O ++ [P])) := HG.out.trans (goodO_step f2 hlt)
          have HCN : Hid (Chain (nx2 ws serial L) F (P + (rdS (wordAt ws (fwTo ws P))).toNat + 1) (O ++ [P])) := HCH.out.snoc f2
          have HNN : Hid ((tgs ws (O ++ [P])).Nodup) := f4
          have HNS2 : Hid ((sersL ws (L ++ hdsO ws (O ++ [P]))).Nodup) := by show (sersL ws (L ++ hdsO ws (O ++ [P]))).Nodup; rw [hdsO_fw f1]; exact HNS.out
          have hsb := rdS_bound (wordAt ws (fwTo ws P))
          have hsn := sumF_fw (O := O) f1
          have hqn : fwTo ws P < ws.length := by omega
          have hld : leadO ws L (O ++ [P]) P = (fwTo ws P : Int) := by have e := fw_nat (wordAt ws P); unfold leadO fwTo; rw [if_pos (by simp), if_pos f1, e]
          have HLD : Hid (leadO ws L (O ++ [P]) P = (fwTo ws P : Int)) := hld
          have HF1 : Hid (isFw ws P = true) := f1
          clear hFo f1 f2 f3 f4 hld
          go_wp2_with (first | (go_at_call 190; refine (follow_at b off cw ws semi toh top cyc scan old copied serial ar cr rs B Bp sv bl cl bs bc vq (leadO ws L O) (L ++ hdsO ws O) (L.length + O.length) O.length (serH ws (L ++ hdsO ws O)) (copH ws O) _ (S : Int) P _ hR CR.1 hbB CR.2 hn' hw (by omega) t0 t1 s0 s1 HSe.out hTl rfl hPn).mono ?_; rintro e w4 (⟨hbad, _⟩ | ⟨_, rfl, b4, S4⟩); exact absurd HFo.out hbad; rw [leadO_fw HF1.out, copH_fw HF1.out] at S4; have hB4 := hB.trans b4; have C4 := arx_from hbB hb HC.out hB4) | (go_at_call 167; first | (refine (span_at b off cw ws semi toh top cyc scan old copied serial ar cr rs sv bl cl bs bc vq (leadO ws L (O ++ [P])) _ P (fwTo ws P) _ S5.lsv S5.cells S5.lbl S5.leads C5.1 C5.2 hn' hw rfl hPn HLD.out hqn).mono ?_; rintro e w6 ⟨rfl, b6⟩; have S6 := S5.below b6; have hB6 : Below B w w6 := hB5.trans (below_from b6 (by have := S5.size; have := S5.lt; have := S5.ge; omega))) | (refine (span_at b off cw ws semi toh top cyc scan old copied serial ar cr rs sv bl cl bs bc vq (leadO ws L (O ++ [P])) _ P (fwTo ws P) _ S4.lsv S4.cells S4.lbl S4.leads C4.1 C4.2 hn' hw rfl hPn HLD.out hqn).mono ?_; rintro e w5 ⟨rfl, b5⟩; have S5 := S4.below b5; have hB5 : Below B w w5 := hB4.trans (below_from b5 (by have := S4.size; have := S4.lt; have := S4.ge; omega)); have C5 := arx_from hbB hb HC.out hB5)))
          have eP : (P : Int) + (rdS (wordAt ws (fwTo ws P)) + 1) = ((P + (rdS (wordAt ws (fwTo ws P))).toNat + 1 : Nat) : Int) := by omega
          have eS : (sumF ws O : Int) + (rdS (wordAt ws (fwTo ws P)) + 1) = ((sumF ws (O ++ [P]) : Nat) : Int) := by omega
          have S7 : Surv B Bp w6 sv bl bs bc ws.length ((fun vp => #[.slice (some ⟨b, off, none⟩) ws.length cw, .int .i64 semi, .int .i64 toh, .int .i64 top, .bool cyc, .int .i64 scan, .int .i64 old, .int .i64 copied, .int .i64 serial, .slice ar rs.length cr, .slice (some ⟨bl, 0, none⟩) ws.length cl, vp, .map (some bs), .map (some bc)]) vq) vq (leadO ws L (O ++ [P])) (L ++ hdsO ws (O ++ [P])) (L.length + (O ++ [P]).length) (O ++ [P]).length (serH ws (L ++ hdsO ws (O ++ [P]))) (copH ws (O ++ [P])) := by
            rw [hdsO_fw HF1.out]
            exact S6.mono (by simp) (by simp)
          first
            | (refine ⟨⟨P + (rdS (wordAt ws (fwTo ws P))).toNat + 1, O ++ [P], vq, by rw [← eP], by rw [← eS], by omega, HCN.out, HNN.out, HNS2.out, HST.out, HON.out, S7, hB6⟩, by simp [intOf]; omega⟩)
            | (go_roundw
               case rel => exact ⟨P + (rdS (wordAt ws (fwTo ws P))).toNat + 1, O ++ [P], vq, by rw [← eP], by rw [← eS], by omega, HCN.out, HNN.out, HNS2.out, HST.out, HON.out, S7, hB6⟩
               case measure => simp [intOf]; omega)
        · have HFo : Hid (¬ FollowOk ws S top (leadO ws L O) (copH ws O) P) := by show ¬ FollowOk ws S top (leadO ws L O) (copH ws O) P; rw [HT.out]; exact hFo
          by_cases hE : EnterOk ws serial (serH ws (L ++ hdsO ws O)) P
          · have f1 := enter_isHd hE
            have f2 := enter_nx2 (L := L) hE
            have HST : Hid (GoodO ws serial L F Od copied ↔ GoodOFrom ws serial L (P + (rdS (wordAt ws P)).toNat + 1) Od copied (O ++ [P])) := HG.out.trans (goodO_step f2 hlt)
            have HCN : Hid (Chain (nx2 ws serial L) F (P + (rdS (wordAt ws P)).toNat + 1) (O ++ [P])) := HCH.out.snoc f2
            have HNN : Hid ((tgs ws (O ++ [P])).Nodup) := by show (tgs ws (O ++ [P])).Nodup; rw [tgs_hd f1]; exact HNT.out
            have HNS2 : Hid ((sersL ws (L ++ hdsO ws (O ++ [P]))).Nodup) := by show (sersL ws (L ++ hdsO ws (O ++ [P]))).Nodup; rw [hdsO_hd f1, ← List.append_assoc]; exact enter_nodup hE HNS.out
            have HE : Hid (EnterOk ws serial (serH ws (L ++ hdsO ws O)) P) := hE
            have hsb := rdS_bound (wordAt ws P)
            have hsn := sumF_hd (O := O) f1
            have hld : leadO ws L (O ++ [P]) P = (P : Int) := by unfold leadO; rw [if_pos (by simp), if_neg (by simp [f1])]
            have HLD : Hid (leadO ws L (O ++ [P]) P = (P : Int)) := hld
            have HF1 : Hid (isFw ws P = false) := f1
            clear hFo f1 f2 hld hE
            go_wp2_with (first | (go_at_call 190; refine (follow_at b off cw ws semi toh top cyc scan old copied serial ar cr rs B Bp sv bl cl bs bc vq (leadO ws L O) (L ++ hdsO ws O) (L.length + O.length) O.length (serH ws (L ++ hdsO ws O)) (copH ws O) _ (S : Int) P _ hR CR.1 hbB CR.2 hn' hw (by omega) t0 t1 s0 s1 HSe.out hTl rfl hPn).mono ?_; rintro e w4 (⟨_, rfl, b4⟩ | ⟨hbad, _⟩); rotate_left; exact absurd hbad HFo.out; have S4 := hR.below b4; have hB4 : Below B w w4 := hB.trans (below_from b4 (by have := hR.size; have := hR.lt; have := hR.ge; omega)); have C4 := arx_from hbB hb HC.out hB4) | (go_at_call 166; refine (enter_at b off cw ws semi toh top cyc scan old copied serial ar cr rs B Bp sv bl cl bs bc vq (leadO ws L O) (L ++ hdsO ws O) (L.length + O.length) O.length (serH ws (L ++ hdsO ws O)) (copH ws O) _ P _ S4 C4.1 hbB C4.2 hn' hw (by omega) hpl rfl hPn).mono ?_; rintro e w5 ⟨q, rfl, hq, b5, _, s5⟩; obtain rfl : q = true := hq.2 HE.out; clear hq; obtain ⟨v5, S5⟩ := s5 rfl; clear s5; rw [leadO_hd HF1.out, serH_snoc] at S5; have hB5 := hB4.trans b5; have C5 := arx_from hbB hb HC.out hB5) | (go_at_call 167; refine (span_at b off cw ws semi toh top cyc scan old copied serial ar cr rs sv bl cl bs bc v5 (leadO ws L (O ++ [P])) _ P P _ S5.lsv S5.cells S5.lbl S5.leads C5.1 C5.2 hn' hw rfl hPn HLD.out hPn).mono ?_; rintro e w6 ⟨rfl, b6⟩; have S6 := S5.below b6; have hB6 : Below B w w6 := hB5.trans (below_from b6 (by have := S5.size; have := S5.lt; have := S5.ge; omega))))
            have eP : (P : Int) + (rdS (wordAt ws P) + 1) = ((P + (rdS (wordAt ws P)).toNat + 1 : Nat) : Int) := by omega
            have S7 : Surv B Bp w6 sv bl bs bc ws.length ((fun vp => #[.slice (some ⟨b, off, none⟩) ws.length cw, .int .i64 semi, .int .i64 toh, .int .i64 top, .bool cyc, .int .i64 scan, .int .i64 old, .int .i64 copied, .int .i64 serial, .slice ar rs.length cr, .slice (some ⟨bl, 0, none⟩) ws.length cl, vp, .map (some bs), .map (some bc)]) v5) v5 (leadO ws L (O ++ [P])) (L ++ hdsO ws (O ++ [P])) (L.length + (O ++ [P]).length) (O ++ [P]).length (serH ws (L ++ hdsO ws (O ++ [P]))) (copH ws (O ++ [P])) := by
              rw [hdsO_hd HF1.out, ← List.append_assoc, copH_hd HF1.out]
              exact S6.mono (by simp; omega) (by simp)
            first
              | (refine ⟨⟨P + (rdS (wordAt ws P)).toNat + 1, O ++ [P], v5, by rw [← eP], by rw [hsn], by omega, HCN.out, HNN.out, HNS2.out, HST.out, HON.out, S7, hB6⟩, by simp [intOf]; omega⟩)
              | (go_roundw
                 case rel => exact ⟨P + (rdS (wordAt ws P)).toNat + 1, O ++ [P], v5, by rw [← eP], by rw [hsn], by omega, HCN.out, HNN.out, HNS2.out, HST.out, HON.out, S7, hB6⟩
                 case measure => simp [intOf]; omega)
          · have HNO : Hid (¬ GoodO ws serial L F Od copied) := fun g => goodO_no HL.out hS1 HOO.out hFo hE hlt (HG.out.1 g)
            have HE : Hid (¬ EnterOk ws serial (serH ws (L ++ hdsO ws O)) P) := hE
            clear hFo hE
            go_wp2_with (first | (go_at_call 190; refine (follow_at b off cw ws semi toh top cyc scan old copied serial ar cr rs B Bp sv bl cl bs bc vq (leadO ws L O) (L ++ hdsO ws O) (L.length + O.length) O.length (serH ws (L ++ hdsO ws O)) (copH ws O) _ (S : Int) P _ hR CR.1 hbB CR.2 hn' hw (by omega) t0 t1 s0 s1 HSe.out hTl rfl hPn).mono ?_; rintro e w4 (⟨_, rfl, b4⟩ | ⟨hbad, _⟩); rotate_left; exact absurd hbad HFo.out; have S4 := hR.below b4; have hB4 : Below B w w4 := hB.trans (below_from b4 (by have := hR.size; have := hR.lt; have := hR.ge; omega)); have C4 := arx_from hbB hb HC.out hB4) | (go_at_call 166; refine (enter_at b off cw ws semi toh top cyc scan old copied serial ar cr rs B Bp sv bl cl bs bc vq (leadO ws L O) (L ++ hdsO ws O) (L.length + O.length) O.length (serH ws (L ++ hdsO ws O)) (copH ws O) _ P _ S4 C4.1 hbB C4.2 hn' hw (by omega) hpl rfl hPn).mono ?_; rintro e w5 ⟨q, rfl, hq, b5, f5, s5⟩; obtain rfl : q = false := (by cases q with | false => rfl | true => exact absurd (hq.1 rfl) HE.out); have S5 := S4.below (f5 rfl); clear hq s5 f5))
            go_ret
            exact ⟨false, rfl, ⟨fun g => by simp at g, fun g => absurd g HNO.out⟩, hB4.trans b5, fun _ => ⟨_, _, _, _, _, _, _, S5⟩, fun g => by simp at g⟩
      · have hed : decide ((P : Int) < old) = false := decide_eq_false (by rw [HOd.out]; omega)
        by_cases he : P = Od
        · have heq : ((P : Int) == old) = true := by rw [HOd.out]; simp; omega
          have hge : GoodOFrom ws serial L P Od copied O ↔ (sumF ws O : Int) = copied := by rw [he]; exact goodO_end HNT.out HNS.out
          have HCT : Hid (Chain (nx2 ws serial L) F Od O) := by show Chain (nx2 ws serial L) F Od O; rw [← he]; exact HCH.out
          clear he hlt
          by_cases hsm : (sumF ws O : Int) = copied
          · have hse : ((sumF ws O : Int) == copied) = true := by simpa using hsm
            have HSM : Hid ((sumF ws O : Int) = copied) := hsm
            have HGG : Hid (GoodO ws serial L F Od copied) := HG.out.2 (hge.2 hsm)
            clear hsm hge
            go_wp2
            go_ret
            first
              | exact ⟨true, rfl, ⟨fun _ => HGG.out, fun _ => rfl⟩, hB, (fun g => by simp at g), fun _ => ⟨O, vq, HCT.out, HNT.out, HNS.out, HSM.out, hR⟩⟩
              | exact Or.inr ⟨rfl, HGG.out, hB, O, HCT.out, HNT.out, HNS.out, HSM.out, vq, hR⟩
              | exact Or.inr ⟨rfl, HGG.out, hB, O, vq, HCT.out, HNT.out, HNS.out, HSM.out, hR⟩
          · have hse : ((sumF ws O : Int) == copied) = false := by simpa using hsm
            have HNO : Hid (¬ GoodO ws serial L F Od copied) := fun g => hsm (hge.1 (HG.out.1 g))
            clear hsm hge
            go_wp2
            go_ret
            first
              | exact ⟨false, rfl, ⟨fun g => by simp at g, fun g => absurd g HNO.out⟩, hB, fun _ => ⟨_, _, _, _, _, _, _, hR⟩, fun g => by simp at g⟩
              | exact Or.inl ⟨rfl, HNO.out, hB, _, _, _, _, _, _, _, hR⟩
        · have heq : ((P : Int) == old) = false := by rw [HOd.out]; simp; omega
          have HNO : Hid (¬ GoodO ws serial L F Od copied) := fun g => goodO_past (by omega) (HG.out.1 g)
          clear he hlt
          go_wp2
          go_ret
          first
            | exact ⟨false, rfl, ⟨fun g => by simp at g, fun g => absurd g HNO.out⟩, hB, fun _ => ⟨_, _, _, _, _, _, _, hR⟩, fun g => by simp at g⟩
            | exact Or.inl ⟨rfl, HNO.out, hB, _, _, _, _, _, _, _, hR⟩
end Go.Proofs.YtaapiedminakcaaGreat
