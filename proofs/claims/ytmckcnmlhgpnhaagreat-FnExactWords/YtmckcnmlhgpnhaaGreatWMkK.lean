/- - -/
import Derived.Test.YtmckcnmlhgpnhaaGreatWMkJ
namespace Go.Proofs.YtmckcnmlhgpnhaaGreat
set_option maxRecDepth 20000
open Go.RowKit
set_option linter.unusedSimpArgs false
set_option linter.unusedVariables false
set_option maxHeartbeats 4000000 in
theorem zud (a1 : Option Addr) (L c1 : Nat) (a2 : Option Addr) (n c2 : Nat) (pa sl : Int) (au : Option Addr) (un cu : Nat) (ac : Option Addr) (cn cc : Nat) (X : Nat -> PtD) (co ca : Nat -> Int) (T : Nat) (w : World) (h1 : PtF T w (.slice a1 L c1) L X) (hs2 : SlF T w (.slice ac cn cc) cn (2 * cn) (inF co ca)) (hT : T <= w.heap.size) (hL : L <= 100) (hn : n <= 255) (hs0 : 0 <= sl) (hs : sl <= 20) (hu : un <= 12) (hc : cn <= 4000) (hX : ∀ j, j < L -> (X j).un <= 12) :
 Calls Tryz.prog 142 #[.agg #[.slice a1 L c1, .slice a2 n c2], .agg #[.int .i64 pa, .int .i64 sl, .slice au un cu, .slice ac cn cc]] w fun e w' => zf7 (∀ k, k < cn -> zaa L n X sl un cn (co k) (ca k)) w e w' := by
 have B2 : Below w.heap.size w ((w.alloc (.cells #[.slice a1 L c1, .slice a2 n c2] 47)).alloc (.cells #[.int .i64 pa, .int .i64 sl, .slice au un cu, .slice ac cn cc] 176)) := ((Below.refl _ _).alloc (Nat.le_refl _) _).alloc (by simp) _
 have H1 : Hid (PtF T w (.slice a1 L c1) L X) := h1
 have H2 : Hid (SlF T w (.slice ac cn cc) cn (2 * cn) (inF co ca)) := hs2
 have HX : Hid (∀ j, j < L -> (X j).un <= 12) := hX
 have HL : Hid (∀ (op : Int) (W : World), _) := fun (op : Int) W => zpl a1 L c1 a2 n c2 pa sl au un cu ac cn cc op W hL hn hs0 hs hu hc
 have hL' : (L : Int) <= 100 := by omega
 have hc' : (cn : Int) <= 4000 := by omega
 clear h1 hs2 hX
 go_enter Tryz.func142, Tryz.ntmps142
 go_wp2
 go_loopw [12] (fun i wr => ∃ k : Nat, k <= cn /\ i = .int .i64 k /\ Hid (∀ p, p < k -> zaa L n X sl un cn (co p) (ca p)) /\ Below w.heap.size w wr /\ (∀ i, wr.cell? ⟨w.heap.size, i, none⟩ = (#[.slice a1 L c1, .slice a2 n c2] : Array Value)[i]?) /\ (∀ i, wr.cell? ⟨w.heap.size + 1, i, none⟩ = (#[.int .i64 pa, .int .i64 sl, .slice au un cu, .slice ac cn cc] : Array Value)[i]?) /\ w.heap.size + 1 + 1 <= wr.heap.size) (fun i _ => cn - (intOf i).toNat)
 case atStart => exact ⟨0, Nat.zero_le _, rfl, fun p hp => by omega, B2, fun i => by simp [go_sem], fun i => by simp [go_sem], by simp⟩
 case round =>
  obtain ⟨k, hk, rfl, HP, hF, K1, K2, z1⟩ := hrel
  by_cases hlt : k < cn
  · have hlt' : (k : Int) < (cn : Int) := by omega
    obtain ⟨br, offr, cap', hv, _, lbr, hcr⟩ := SlF.parts (H2.out.below hF hT) (k := 0) (by omega)
    simp only [Value.slice.injEq] at hv
    obtain ⟨rfl, _, rfl⟩ := hv
    have q1 : wr.cell? ⟨br, offr + k * 2, none⟩ = some (.int .i64 (co k)) := by rw [hcr (k * 2) (by omega), zhh]
    have q2 : wr.cell? ⟨br, offr + k * 2 + 1, none⟩ = some (.int .i64 (ca k)) := by rw [Nat.add_assoc, hcr (k * 2 + 1) (by omega), zke]
    have NI : Hid (zaa L n X sl un cn (co k) (ca k) ↔ (zv L n sl un cn (co k)).1 <= ca k /\ ca k <= (zv L n sl un cn (co k)).2 /\ (co k = 12 -> zwl sl un (X (ca k).toNat))) := Iff.rfl
    obtain ⟨op, hop⟩ : ∃ y, co k = y := ⟨_, rfl⟩
    obtain ⟨av, hav⟩ : ∃ y, ca k = y := ⟨_, rfl⟩
    rw [hop, hav] at NI
    rw [hop] at q1
    rw [hav] at q2
    clear hcr H2
    have BX : Below wr.heap.size wr (wr.alloc (.cells #[.int .i64 op, .int .i64 av] 178)) := (Below.refl _ _).alloc (Nat.le_refl _) _
    have BF := zc hF BX
    have K1' := zam K1 BX (by omega)
    have K2' := zam K2 BX (by omega)
    have K3 : ∀ i, (wr.alloc (.cells #[.int .i64 op, .int .i64 av] 178)).cell? ⟨wr.heap.size, i, none⟩ = (#[.int .i64 op, .int .i64 av] : Array Value)[i]? := fun i => by simp [go_sem]
    go_wp2_with fail
    refine (HL.out op _).mono ?_
    rintro e w1 ⟨rfl, b1⟩
    have K11 := zam K1' b1 (by simp; omega)
    have K12 := zam K2' b1 (by simp; omega)
    have K13 := zam K3 b1 (by simp)
    have z2 : wr.heap.size + 1 <= w1.heap.size := by have := b1.size; simp at this; omega
    have BG := zc BF b1
    clear K1 K2 K1' K2' K3 b1 BF BX HL q1 q2
    by_cases g1 : (zv L n sl un cn op).1 <= av
    rotate_left
    · have HV : Hid (¬ zaa L n X sl un cn (co k) (ca k)) := fun h => by rw [hop, hav] at h; exact g1 (NI.out.1 h).1
      have g1' : av < (zv L n sl un cn op).1 := by omega
      clear g1 NI H1 HX HP
      generalize (zv L n sl un cn op).1 = lo at g1'
      generalize (zv L n sl un cn op).2 = hi
      go_wp2
      go_ret
      exact ⟨false, rfl, ⟨fun h => (by cases h), fun h => absurd (h k hlt) HV.out⟩, BG⟩
    by_cases g2 : av <= (zv L n sl un cn op).2
    rotate_left
    · have HV : Hid (¬ zaa L n X sl un cn (co k) (ca k)) := fun h => by rw [hop, hav] at h; exact g2 (NI.out.1 h).2.1
      have g2' : (zv L n sl un cn op).2 < av := by omega
      clear g2 NI H1 HX HP
      generalize (zv L n sl un cn op).1 = lo at g1
      generalize (zv L n sl un cn op).2 = hi at g2'
      go_wp2
      go_ret
      exact ⟨false, rfl, ⟨fun h => (by cases h), fun h => absurd (h k hlt) HV.out⟩, BG⟩
    by_cases g3 : op = 12
    · subst g3
      have g4 : 0 <= av := by simpa [zv] using g1
      have g5 : av < (L : Int) := by have : av <= (L : Int) - 1 := by simpa [zv] using g2
                                     omega
      obtain ⟨j, rfl⟩ := Int.eq_ofNat_of_zero_le g4
      have hj : j < L := by omega
      obtain ⟨b, off, rfl, lb, lz, hcx⟩ := H1.out.at_ hj
      obtain ⟨ax, cx, ax', cx', c0, c1, c2, c3, sx, sx'⟩ := (hcx j hj).below BG hT lb
      have xu := HX.out j hj
      have NY : Hid (zaa L n X sl un cn (co k) (ca k) ↔ ∀ p, p < (X j).un -> zeg sl un (X j).ub (X j).ui p) := by
       show zaa L n X sl un cn (co k) (ca k) ↔ _
       rw [hop, hav]
       exact ⟨fun h => (NI.out.1 h).2.2 rfl, fun h => NI.out.2 ⟨g1, g2, fun _ => h⟩⟩
      have hT2 : T <= w1.heap.size := Nat.le_trans hT BG.size
      clear NI hcx sx' H1 HX c0 c1 c3
      generalize (zv L n sl un cn 12).1 = lo at g1 ⊢
      generalize (zv L n sl un cn 12).2 = hi at g2 ⊢
      obtain ⟨x, hx⟩ : ∃ x, X j = x := ⟨_, rfl⟩
      rw [hx] at NY c2 sx xu
      obtain ⟨pa', sl', un', ub', ui', cn', co', ca'⟩ := x
      simp only at NY c2 sx xu
      have HC : Hid (∀ W, Below w1.heap.size w1 W -> _) := fun W (hW : Below w1.heap.size w1 W) => zr8 pa sl au un cu (some ⟨br, offr, none⟩) cn cc ax un' cx ub' ui' T W (sx.below hW hT2) (Nat.le_trans hT2 hW.size) (by omega) (by omega)
      clear sx hx hop hav
      go_wp2
      go_region_with (go_at_call 182; refine (HC.out _ (Below.refl _ _).drew).mono ?_; rintro e w2 ⟨q, rfl, hq, b2⟩)
      all_goals
       have HQ : Hid (q = true ↔ zaa L n X sl un cn (co k) (ca k)) := hq.trans NY.out.symm
       have BH := zc BG.drew b2
       have b2' : Below w1.heap.size w1 w2 := zc (Below.refl _ _).drew b2
       have K21 := zam K11 b2' (by omega)
       have K22 := zam K12 b2' (by omega)
       have z3 : w.heap.size + 1 + 1 <= w2.heap.size := by have := b2'.size; omega
       clear hq b2 b2' K11 K12 K13 NY HC
       cases q with
       | true =>
         have HV : Hid (∀ p, p < k + 1 -> zaa L n X sl un cn (co p) (ca p)) := zb1 HP.out (HQ.out.1 rfl)
         go_wp2
         go_roundw
         case rel => exact ⟨k + 1, by omega, by go_num, HV, BH, K21, K22, z3⟩
         case measure => simp [intOf]; omega
       | false =>
         have HV : Hid (¬ zaa L n X sl un cn (co k) (ca k)) := fun h => absurd (HQ.out.2 h) (by simp)
         go_wp2
         go_ret
         exact ⟨false, rfl, ⟨fun h => (by cases h), fun h => absurd (h k hlt) HV.out⟩, BH⟩
    · have HV : Hid (∀ p, p < k + 1 -> zaa L n X sl un cn (co p) (ca p)) := zb1 HP.out (by rw [hop, hav]; exact NI.out.2 ⟨g1, g2, fun h => absurd h g3⟩)
      have g3' : (op == 12) = false := by simp [g3]
      clear g3 NI H1 HX HP
      generalize (zv L n sl un cn op).1 = lo at g1
      generalize (zv L n sl un cn op).2 = hi at g2
      go_wp2
      go_quiet (fail)
      go_wp2
      go_roundw
      case rel => exact ⟨k + 1, by omega, by go_num, HV, below_drewN BG _, K11, K12, by simp; omega⟩
      case measure => simp [intOf]; omega
  · have hge : (cn : Int) <= (k : Int) := by omega
    go_wp2
    go_ret
    exact ⟨true, rfl, ⟨fun _ j hj => HP.out j (by omega), fun _ => rfl⟩, hF⟩
set_option maxHeartbeats 4000000 in
theorem zkg (a1 : Option Addr) (L c1 : Nat) (a2 : Option Addr) (n c2 : Nat) (X : Nat -> PtD) (s : Nat -> ByteArray) (T : Nat) (w : World) (h1 : MdF T w (.slice a1 L c1) (.slice a2 n c2) L X n s) (hT : T <= w.heap.size) (hL : L <= 1048576) (hn : n <= 1048576) (hX : ∀ j, j < L -> PLe (X j) 1048576) (hsz : ∀ j, j < n -> (s j).size <= 9223372036854775807) :
 Calls Tryz.prog 107 #[.agg #[.slice a1 L c1, .slice a2 n c2]] w fun e w' => zf7 (MOk L X n s) w e w' := by
 have B1 : Below w.heap.size w (w.alloc (.cells #[.slice a1 L c1, .slice a2 n c2] 47)) := (Below.refl _ _).alloc (Nat.le_refl _) _
 have H1 : Hid (PtF T w (.slice a1 L c1) L X) := h1.1
 have HTx : Hid (∀ W, Below w.heap.size w W -> _) := fun W (hW : Below w.heap.size w W) => zr9 a1 L c1 a2 n c2 s T W (h1.2.below hW hT) (Nat.le_trans hT hW.size) hn hsz
 have HPs : Hid (∀ W, Below w.heap.size w W -> _) := fun W (hW : Below w.heap.size w W) => zpk a1 L c1 a2 n c2 X T W (h1.1.below hW hT) (Nat.le_trans hT hW.size) hL hX
 clear h1 hX hsz
 go_enter Tryz.func107, Tryz.ntmps107
 go_wp2_with fail
 refine (HTx.out _ B1).mono ?_
 rintro e w1 ⟨q, rfl, hq, b1⟩
 have HQ1 : Hid (q = true ↔ zh7 n s) := hq
 have BG := zc B1 b1
 have K1 : ∀ i, w1.cell? ⟨w.heap.size, i, none⟩ = (#[.slice a1 L c1, .slice a2 n c2] : Array Value)[i]? := fun i => by rw [(zo b1).1 _ _ (by simp)]; simp [go_sem]
 have z1 : w.heap.size + 1 <= w1.heap.size := by have := b1.size; simp at this; omega
 clear hq b1 HTx
 cases q with
 | false =>
   go_wp2
   go_ret
   exact ⟨false, rfl, ⟨fun h => (by cases h), fun h => absurd (HQ1.out.2 h.1) (by simp)⟩, BG⟩
 | true =>
 have HT1 : Hid (zh7 n s) := HQ1.out.1 rfl
 go_wp2_with fail
 refine (HPs.out _ BG).mono ?_
 rintro e w2 ⟨q, rfl, hq, b1⟩
 have HQ2 : Hid (q = true ↔ zgq L X) := hq
 have BH := zc BG b1
 have K2 := zam K1 b1 (by omega)
 have z2 : w.heap.size + 1 <= w2.heap.size := Nat.le_trans z1 b1.size
 clear hq b1 HPs K1 BG z1 HQ1
 cases q with
 | false =>
   go_wp2
   go_ret
   exact ⟨false, rfl, ⟨fun h => (by cases h), fun h => absurd (HQ2.out.2 h.2.1) (by simp)⟩, BH⟩
 | true =>
 have HT2 : Hid (zgq L X) := HQ2.out.1 rfl
 have l1 := HT2.out.2.1
 have l1' : (L : Int) <= 100 := by omega
 clear HQ2
 go_wp2
 go_loopw [16] (fun i wr => ∃ k : Nat, k <= L /\ i = .int .i64 k /\ Hid (∀ p, p < k -> ze5 L n X (X p)) /\ Below w.heap.size w wr /\ (∀ i, wr.cell? ⟨w.heap.size, i, none⟩ = (#[.slice a1 L c1, .slice a2 n c2] : Array Value)[i]?) /\ w.heap.size + 1 <= wr.heap.size) (fun i _ => L - (intOf i).toNat)
 case atStart => exact ⟨0, Nat.zero_le _, rfl, fun p hp => by omega, BH, K2, z2⟩
 case round =>
  clear BH K2 z2
  obtain ⟨k, hk, rfl, HP, hF, K1, z1⟩ := hrel
  by_cases hlt : k < L
  · have hlt' : (k : Int) < (L : Int) := by omega
    have h1' := (H1.out.below hF hT)
    obtain ⟨b, off, rfl, lb, lz, hc⟩ := H1.out.at_ hlt
    obtain ⟨ax, cx, ax', cx', d0, d1, d2, d3, sx, sx'⟩ := (hc k hlt).below hF hT lb
    obtain ⟨m1, m2, m3, m4, m5, m6, m7⟩ := HT2.out.2.2.1 k hlt
    have NC : Hid (ze5 L n X (X k) ↔ ∀ p, p < (X k).cn -> zaa L n X (X k).sl (X k).un (X k).cn ((X k).co p) ((X k).ca p)) := Iff.rfl
    obtain ⟨x, hx⟩ : ∃ x, X k = x := ⟨_, rfl⟩
    rw [hx] at d0 d1 d2 d3 sx sx' m1 m2 m3 m4 m5 m6 NC
    obtain ⟨pa, sl, un, ub, ui, cn, co, ca⟩ := x
    simp only at d0 d1 d2 d3 sx sx' m1 m2 m3 m4 m5 m6 NC
    have hT2 : T <= wr.heap.size := Nat.le_trans hT hF.size
    have lw : w.heap.size < wr.heap.size := by omega
    have BX : Below wr.heap.size wr (wr.alloc (.cells #[.int .i64 pa, .int .i64 sl, .slice ax un cx, .slice ax' cn cx'] 176)) := (Below.refl _ _).alloc (Nat.le_refl _) _
    have HC : Hid (Calls _ _ _ _ _) := zud (some ⟨b, off, none⟩) L c1 a2 n c2 pa sl ax un cx ax' cn cx' X co ca T _ (h1'.below BX hT2) (sx'.below BX hT2) (Nat.le_trans hT2 BX.size) l1 HT1.out.1 (by omega) m3 m4 m6 (fun j hj => (HT2.out.2.2.1 j hj).2.2.2.1)
    have BF := zc hF BX
    have K1' := zam K1 BX lw
    clear hc sx sx' h1' m7
    go_wp2_with fail
    refine HC.out.mono ?_
    rintro e w1 ⟨q, rfl, hq, b1⟩
    have HQ : Hid (q = true ↔ ze5 L n X (X k)) := by rw [hx]; exact hq
    have BG := zc BF b1
    have K3 := zam K1' b1 (by simp; omega)
    have z3 : w.heap.size + 1 <= w1.heap.size := by have := b1.size; simp at this; omega
    clear hq b1 HC K1' BX BF K1 d0 d1 d2 d3 hx NC
    cases q with
    | true =>
      have HV : Hid (∀ p, p < k + 1 -> ze5 L n X (X p)) := zb1 HP.out (HQ.out.1 rfl)
      go_wp2
      go_roundw
      case rel => exact ⟨k + 1, by omega, by go_num, HV, BG, K3, z3⟩
      case measure => simp [intOf]; omega
    | false =>
      have HV : Hid (¬ MOk L X n s) := fun h => absurd (HQ.out.2 (h.2.2 k hlt)) (by simp)
      go_wp2
      go_ret
      exact ⟨false, rfl, ⟨fun h => (by cases h), fun h => absurd h HV.out⟩, BG⟩
  · have hge : (L : Int) <= (k : Int) := by omega
    go_wp2
    go_ret
    exact ⟨true, rfl, ⟨fun _ => ⟨HT1.out, HT2.out, fun i hi => HP.out i (by omega)⟩, fun _ => rfl⟩, hF⟩
end Go.Proofs.YtmckcnmlhgpnhaaGreat
