/- - -/
import Derived.Test.YtmckcnmlhgpnhaaGreatWKwS
namespace Go.Proofs.YtmckcnmlhgpnhaaGreat
set_option maxRecDepth 20000
open Go.RowKit Go.Maps
set_option linter.unusedSimpArgs false
set_option linter.unusedVariables false
set_option maxHeartbeats 4000000 in
theorem zki (aw : Option Addr) (cw : Nat) (ws : List Int) (smz toh top : Int) (cyc : Bool) (sn old cpz sr : Int) (ar : Option Addr) (cr : Nat) (rs : List (Int × Int)) (y : Nat -> Int) (Tr : Nat) (w : World) (hs : Sl w (.slice aw ws.length cw) ws) (hn : ws.length <= 1048576) (hw : zg ws) (hrt : SlF Tr w (.slice ar rs.length cr) rs.length (2 * rs.length) (fun i => .int .i64 (y i))) (hn2 : rs.length <= 1048576) (hok : zdc ws smz toh top cyc sn old cpz sr y rs.length) (mk : Nat -> Int) (R : List Nat) (hK : zbm mk ws cyc sn) (hB : Bfs ws 0 (zbj ws (zan y) rs.length []) R) (hC : zbc mk (zbj ws (zan y) rs.length [])) :
 Calls Tryz.prog 11 #[.agg #[.slice aw ws.length cw, .int .i64 smz, .int .i64 toh, .int .i64 top, .bool cyc, .int .i64 sn, .int .i64 old, .int .i64 cpz, .int .i64 sr, .slice ar rs.length cr]] w fun e w' => e = .returned (.int .i64 (zcd ws R)) /\ Below w.heap.size w w' := by
 obtain ⟨i0, hi, hz0, hz1, hz2⟩ := info_parts zge
 have HRT : Hid (∀ k, k < rs.length -> isR (y (2 * k)) = true -> ∃ p : Nat, y (2 * k + 1) = (p : Int) /\ p < ws.length /\ (zi ws (y (2 * k + 1)).toNat).toNat = p) := fun k hk hr => by
  obtain ⟨p, h1, _, _, h4, h5, _⟩ := zp4 hw hok hk hr
  exact ⟨p, h1, by omega, by rw [h1, Int.toNat_natCast, h5, Int.toNat_natCast]⟩
 have HCN : Hid (∀ k, (zbj ws (zan y) k []).length <= k) := by
  intro k
  induction k with
  | zero => simp [zbj]
  | succ k ih =>
    show (zbo ws (zbj ws (zan y) k []) _ _).length <= k + 1
    unfold zbo
    split
    · split
      · omega
      · simp; omega
    · omega
 have HS : Hid (Sl w (.slice aw ws.length cw) ws) := hs
 have HR : Hid (SlF w.heap.size w (.slice ar rs.length cr) rs.length (2 * rs.length) (fun i => .int .i64 (y i))) := hrt.here
 have HQ : Hid (zdc ws smz toh top cyc sn old cpz sr y rs.length) := hok
 have HK : Hid (zbm mk ws cyc sn) := hK
 have HB : Hid (Bfs ws 0 (zbj ws (zan y) rs.length []) R) := hB
 have HC : Hid (zbc mk (zbj ws (zan y) rs.length [])) := hC
 have hrl : rs.length <= 24 := by obtain ⟨_, _, _, _, _, h, _⟩ := zdi hok.1; exact h
 have hn' : (ws.length : Int) <= 1048576 := by omega
 have hrl' : (rs.length : Int) <= 24 := by omega
 have hm1 := zlj (ws.length : Int) (by omega) (by omega)
 rw [Int.toNat_natCast] at hm1
 clear hs hrt hok hK hB hC
 go_enter Tryz.func11, Tryz.ntmps11
 go_wp2_with fail
 refine (zgt _ _ _ _ _ _ _ _ _ _ _ _ _ _ y w.heap.size _ (HS.out.below (zd (Below.refl _ _))) hn hw (HR.out.below (zd (Below.refl _ _)) (Nat.le_refl _)) hn2).mono ?_
 rintro e w1 ⟨q, rfl, hq, b1⟩
 obtain rfl := hq.2 HQ.out
 have B1 := zd b1
 have k1 := zp b1 (by simp)
 have z1 := zq b1
 clear b1 hq
 go_upto_region 5 with fail
 clear hm1
 obtain ⟨w2, hw2⟩ : ∃ V, V = (w1.alloc (.cells (madeCells #[.bool false] ws.length) 4)).alloc (.cells #[] 3) := ⟨_, rfl⟩
 rw [<- hw2]
 have ST : Rst w1.heap.size ws.length w1 w2 (.slice (some ⟨w1.heap.size + 1, 0, none⟩) 0 0) [] := by
  rw [hw2]
  refine ⟨⟨rfl, .inr ⟨w1.heap.size + 1, 0, #[], rfl, Nat.le_refl _, zdn (by simp), Nat.le_refl _, by simp [maxLen], rfl, rfl⟩⟩, ?_, ((Below.refl _ _).alloc (Nat.le_refl _) _).alloc (by simp) _⟩
  exact ((World.rowIs_made w1 (.bool false) ws.length 4).of_block (((Below.refl _ _).alloc (Nat.le_refl _) _).block _ (by simp))).congr fun i _ => by simp
 have HST : Hid (Rst w1.heap.size ws.length w1 w2 (.slice (some ⟨w1.heap.size + 1, 0, none⟩) 0 0) []) := ST
 have HB1 : Hid (Below w.heap.size w w1) := B1
 have HK1 : Hid (∀ i, w1.cell? ⟨w.heap.size, i, none⟩ = (#[.slice aw ws.length cw, .int .i64 smz, .int .i64 toh, .int .i64 top, .bool cyc, .int .i64 sn, .int .i64 old, .int .i64 cpz, .int .i64 sr, .slice ar rs.length cr] : Array Value)[i]?) := k1
 clear hw2 ST B1 k1
 go_wp2_with fail
 go_loopw [4, 5] (fun v i wr => ∃ k : Nat, k <= rs.length /\ i = .int .i64 k /\ Rst w1.heap.size ws.length w1 wr v (zbj ws (zan y) k [])) (fun _ i _ => rs.length - (intOf i).toNat)
 case atStart => exact ⟨0, Nat.zero_le _, rfl, HST.out⟩
 case round =>
  obtain ⟨k, hk, rfl, hR⟩ := hrel
  obtain ⟨td, htd⟩ : ∃ td, td = zbj ws (zan y) k [] := ⟨_, rfl⟩
  have hcl := HCN.out k
  rw [<- htd] at hR hcl
  obtain ⟨ta, tc, rfl⟩ := hR.head
  have kr := ze HK1.out hR.2.2 z1
  have lr := hR.lt
  have lH : w.heap.size < wr.heap.size := by omega
  have hB1r : Below w.heap.size w wr := HB1.out.trans (hR.2.2.mono (Nat.le_of_lt z1))
  by_cases hlt : k < rs.length
  · have hlt' : (k : Int) < (rs.length : Int) := by omega
    obtain ⟨br, offr, cap', hv, _, lbr, hcr⟩ := HR.out.parts (k := 0) (by omega)
    simp only [Value.slice.injEq] at hv
    obtain ⟨rfl, _, rfl⟩ := hv
    obtain ⟨t, ht⟩ : ∃ t, t = y (2 * k) := ⟨_, rfl⟩
    obtain ⟨m, hm⟩ : ∃ m, m = y (2 * k + 1) := ⟨_, rfl⟩
    have x0 : wr.cell? ⟨br, offr + k * 2, none⟩ = some (.int .i64 t) := by rw [hB1r.cell (p := ⟨br, offr + k * 2, none⟩) lbr, ht, Nat.mul_comm]; exact hcr (2 * k) (by omega)
    have x1 : wr.cell? ⟨br, offr + k * 2 + 1, none⟩ = some (.int .i64 m) := by rw [hB1r.cell (p := ⟨br, offr + k * 2 + 1, none⟩) lbr, hm, Nat.mul_comm]; exact hcr (2 * k + 1) (by omega)
    have lbr2 : br < wr.heap.size := Nat.lt_of_lt_of_le lbr hB1r.size
    have hrt := HRT.out k hlt
    rw [<- ht, <- hm] at hrt
    have hnext : zbj ws (zan y) (k + 1) [] = zbo ws td t m := by rw [htd, ht, hm]; rfl
    have HN : Hid (zbj ws (zan y) (k + 1) [] = zbo ws td t m) := hnext
    have HRr : Hid (Rst w1.heap.size ws.length w1 wr (.slice ta td.length tc) td) := hR
    clear hnext htd hcr ht hm hB1r
    cases hr : isR t with
    | false =>
      have HRF : Hid (isR t = false) := hr
      have HE : Hid (zbo ws td t m = td) := zn2 hr
      clear hR hrt hr
      go_wp2_with (go_at_call 42; refine (zaq _ _ _).mono ?_; rw [HRF.out]; rintro e w4 ⟨rfl, b4⟩; obtain ⟨hc4, hf4⟩ := zo b4; have z4 := b4.size)
      go_roundw
      case rel => exact ⟨k + 1, by omega, by go_num, by rw [HN.out, HE.out]; exact HRr.out.below b4⟩
      case measure => simp [intOf]; omega
    | true =>
      have HRF : Hid (isR t = true) := hr
      obtain ⟨p, hp, hpl, hq⟩ := hrt hr
      subst hp
      have hpl' : (p : Int) < (ws.length : Int) := by omega
      by_cases hm : p ∈ td
      · have HE : Hid (zbo ws td t (p : Int) = td) := zn3 hq hm
        have xs : wr.cell? ⟨w1.heap.size, p, none⟩ = some (.bool true) := by rw [hR.2.1.cell (by omega)]; simp [hm]
        clear hR hrt hr hm hq
        go_wp2_with (go_at_call 42; refine (zaq _ _ _).mono ?_; rw [HRF.out]; rintro e w4 ⟨rfl, b4⟩; obtain ⟨hc4, hf4⟩ := zo b4; have z4 := b4.size)
        go_roundw
        case rel => exact ⟨k + 1, by omega, by go_num, by rw [HN.out, HE.out]; exact HRr.out.below b4⟩
        case measure => simp [intOf]; omega
      · have HE : Hid (zbo ws td t (p : Int) = td ++ [p]) := zlk hr hq hm
        have HM : Hid (p ∉ td) := hm
        have xs : wr.cell? ⟨w1.heap.size, p, none⟩ = some (.bool false) := by rw [hR.2.1.cell (by omega)]; simp [hm]
        have fs := hR.2.1.frozen
        have tl : td.length + 1 <= 25 := by omega
        have nb : br ≠ w1.heap.size := by have := HB1.out.size; omega
        have nH : w.heap.size ≠ w1.heap.size := by omega
        clear hR hrt hr hm hq hcl
        go_wp2_with (first | (go_at_call 42; refine (zaq _ _ _).mono ?_; rw [HRF.out]; rintro e w4 ⟨rfl, b4⟩; obtain ⟨hc4, hf4⟩ := zo b4; have z4 := b4.size; have R4 : Hid (Rst w1.heap.size ws.length w1 w4 (.slice ta td.length tc) td) := HRr.out.below b4) | (at_builtin; refine wpList_append_own _ rfl _ _ 64 rfl (w1.heap.size + 1) 3 i0 (.int .i64 0) 1 8 Tryz.underlying64 hi hz0 hz1 hz2 rfl (by decide) _ td.length (zfi td) rfl ((R4.out.marked _ _).alloc _) ⟨_, 0, none⟩ 1 1 [.int .i64 (p : Int)] rfl rfl (fun j u hj => by have h9 := cell_one_new (w4.setCell ⟨w1.heap.size, p, none⟩ (.bool true)) (.int .i64 (p : Int)) 3 j u hj; simpa using h9) (ints_oneCell .i64 [(p : Int)]) (by unfold maxLen; omega) (by omega) (by simp; omega) ?_))
        intro v' w6 hown hgrow _
        have R6 := R4.out.put hpl HM.out hown hgrow
        clear hown hgrow
        go_wp2
        go_roundw
        case rel => exact ⟨k + 1, by omega, by go_num, by rw [HN.out, HE.out]; exact R6⟩
        case measure => simp [intOf]; omega
  · have hge : (rs.length : Int) <= (k : Int) := by omega
    have hkk : k = rs.length := by omega
    have HRr : Hid (Rst w1.heap.size ws.length w1 wr (.slice ta td.length tc) (zbj ws (zan y) rs.length [])) := by rw [<- hkk, <- htd]; exact hR
    obtain ⟨t0, ht0⟩ : ∃ t, t = zbj ws (zan y) rs.length [] := ⟨_, rfl⟩
    have htt : td = t0 := by rw [htd, hkk, ht0]
    rw [<- ht0] at HB HC
    have HR0 : Hid (Rst w1.heap.size ws.length w1 wr (.slice ta td.length tc) t0) := by rw [<- htt]; exact hR
    clear hkk htd htt ht0 hR HRr HCN HRT hcl hB1r
    go_wp2_with fail
    rename World => wr1
    clear kr
    go_loopw [4, 6, 7] (fun v u i wr => ∃ (n : Nat) (td : List Nat), n <= td.length /\ i = .int .i64 n /\ u = .int .i64 (zcd ws (td.take n)) /\ zbc mk td /\ Bfs ws n td R /\ Rst w1.heap.size ws.length w1 wr v td) (fun _ _ i _ => ws.length - (intOf i).toNat)
    case atStart => exact ⟨0, _, Nat.zero_le _, rfl, rfl, HC.out, HB.out, HR0.out⟩
    case round =>
     obtain ⟨n, td, hnl, rfl, rfl, hcome, hbfs, hR⟩ := hrel
     have hll : td.length <= ws.length := zdy HK.out hcome
     have hll' : (td.length : Int) <= (ws.length : Int) := by omega
     by_cases hlt : n < td.length
     · have hlt' : (n : Int) < (td.length : Int) := by omega
       obtain ⟨g, cap, rfl, hg1, hg2, hgc⟩ := hR.item hlt
       obtain ⟨p, hp⟩ : ∃ p, p = td.getD n 0 := ⟨_, rfl⟩
       rw [<- hp] at hgc
       have hpm : p ∈ td := by rw [hp]; simp [hlt]
       have hobj := hcome.2 p hpm
       have hpl := zf9 HK.out hobj
       obtain ⟨hrd, hin⟩ := HK.out.within p hobj
       have kr := ze HK1.out hR.2.2 z1
       have lr := hR.lt
       have lH : w.heap.size < wr.heap.size := by omega
       have hsb := za5 (za ws p)
       have HBw : Hid (Below w.heap.size w wr) := HB1.out.trans (hR.2.2.mono (Nat.le_of_lt z1))
       have HRr : Hid (Rst w1.heap.size ws.length w1 wr (.slice (some ⟨g, 0, none⟩) td.length cap) td) := hR
       have HCO : Hid (zbc mk td) := hcome
       have HBF : Hid (Bfs ws n td R) := hbfs
       have HPD : Hid (p = td.getD n 0) := hp
       have HOB : Hid (zbf mk p) := hobj
       have KP : ∀ V, Below wr.heap.size wr V -> (Below wr.heap.size wr V /\ (∀ i, V.cell? ⟨w.heap.size, i, none⟩ = (#[.slice aw ws.length cw, .int .i64 smz, .int .i64 toh, .int .i64 top, .bool cyc, .int .i64 sn, .int .i64 old, .int .i64 cpz, .int .i64 sr, .slice ar rs.length cr] : Array Value)[i]?) /\ V.cell? ⟨g, n, none⟩ = some (.int .i64 (p : Int))) := fun V hV => ⟨hV, ze kr hV lH, by rw [hV.cell (p := ⟨g, n, none⟩) hg2]; exact hgc⟩
       have sb := zkk ws (td.take n)
       have sl : (td.take n).length <= n := List.length_take_le _ _
       obtain ⟨sm, hsm⟩ : ∃ s, s = zcd ws (td.take n) := ⟨_, rfl⟩
       rw [<- hsm] at sb ⊢
       have sb1 : sm <= 257 * 1048576 := by omega
       have HSM : Hid (sm + rdS (za ws p) + 1 = zcd ws (td.take (n + 1))) := by
        show _ = _
        rw [List.take_succ_eq_append_getElem hlt, hsm]
        have e : td[n] = p := by rw [hp]; simp [hlt]
        rw [e, zll]
       clear hR hcome hbfs hobj hp hsm hpm
       go_upto_region 15 with fail
       go_cut [8] from 70 to 75 (fun s8 wc => ∃ c8 : Nat, s8 = .pointer (some ⟨c8, 0, none⟩) /\ wc.cell? ⟨c8, 0, none⟩ = some (.int .i64 (rdK (za ws p))) /\ wc.cell? ⟨c8, 1, none⟩ = some (.int .i64 (rdS (za ws p))) /\ Below wr.heap.size wr wc)
       case first =>
        clear kr hgc
        go_region_held3 (fun V => (Below wr.heap.size wr V /\ (∀ i, V.cell? ⟨w.heap.size, i, none⟩ = (#[.slice aw ws.length cw, .int .i64 smz, .int .i64 toh, .int .i64 top, .bool cyc, .int .i64 sn, .int .i64 old, .int .i64 cpz, .int .i64 sr, .slice ar rs.length cr] : Array Value)[i]?) /\ V.cell? ⟨g, n, none⟩ = some (.int .i64 (p : Int)))) (first | exact KP _ (by assumption) | exact KP _ (Below.refl _ _) | exact KP _ (Below.refl _ _).drew | exact KP _ (zbd (And.left (by assumption)) _) | (refine KP _ ?_; repeat (first | assumption | exact And.left (by assumption) | refine Below.setCell ?_ (by first | exact Nat.le_refl _ | (simp; done) | (simp; omega)) _ | refine zbd ?_ _))) (first | (go_at_call 43; refine (zbr _ _ _ _ _ _ _ _ _ _ _ _ _ _ _ p _ rfl (HS.out.below (zc HBw.out (And.left (by assumption)))) hn hw hpl).mono ?_; rintro e w' ⟨rfl, hb⟩; have hB3 := zc (w := wr) (And.left (by assumption)) hb; have hz3 := hB3.size; obtain ⟨hc, hf⟩ := zo hb; have hz := hb.size; simp at hz; clear hb))
        · go_wp2_with fail
          go_meet
          exact ⟨_, rfl, by simp [go_sem], by simp [go_sem], zbd hB3 _⟩
        · go_wp2_with fail
          go_meet
          have p0 : (w'.cell? ⟨wr.heap.size, 0, none⟩).isSome = true := by rw [hc _ _ (by simp)]; simp [go_sem]
          have p1 : (w'.cell? ⟨wr.heap.size, 1, none⟩).isSome = true := by rw [hc _ _ (by simp)]; simp [go_sem]
          have p2 : (w'.cell? ⟨wr.heap.size, 2, none⟩).isSome = true := by rw [hc _ _ (by simp)]; simp [go_sem]
          exact ⟨_, rfl, by simp [go_sem, p0, p1, p2], by simp [go_sem, p0, p1, p2], ((hB3.setCell (p := ⟨wr.heap.size, 0, none⟩) (Nat.le_refl _) _).setCell (p := ⟨wr.heap.size, 1, none⟩) (Nat.le_refl _) _).setCell (p := ⟨wr.heap.size, 2, none⟩) (Nat.le_refl _) _⟩
       case rest =>
        obtain ⟨c8, rfl, cv0, cv1, hBc⟩ := hcut
        have HRc : Hid (Rst w1.heap.size ws.length w1 wc (.slice (some ⟨g, 0, none⟩) td.length cap) td) := HRr.out.below hBc
        have lgc : g < wc.heap.size := Nat.lt_of_lt_of_le hg2 hBc.size
        clear KP kr hgc hBc HRr HBw
        have hsm1 : (0 : Int) <= rdS (za ws p) := hsb.1
        go_wp2_with fail
        refine (zhl _ _ _).mono ?_
        rintro e w4 ⟨v4, rfl, o4, b4⟩
        obtain ⟨asl, csl, rfl, hcase⟩ := o4
        obtain ⟨N, hN⟩ : ∃ N, N = slN (rdK (za ws p)) (rdS (za ws p)) := ⟨_, rfl⟩
        rw [<- hN] at hcase ⊢
        have hN1 : N <= 128 := by rw [hN]; exact zjz _ _
        have HN : Hid (N = slN (rdK (za ws p)) (rdS (za ws p))) := hN
        have HCASE : Hid (N = 0 \/ ∃ b M gg, asl = some ⟨b, 0, none⟩ /\ wc.heap.size <= b /\ b < w4.heap.size /\ N <= M /\ w4.rowIs b 3 M gg /\ ∀ i, i < N -> gg i = .int .i64 (fs (rdK (za ws p)) + 2 * (i : Int))) := hcase
        have HR4 : Hid (Rst w1.heap.size ws.length w1 w4 (.slice (some ⟨g, 0, none⟩) td.length cap) td) := HRc.out.below b4
        clear hN hcase b4 HRc cv0 cv1
        have HSL4 : Hid (SlR w1.heap.size asl N (rdK (za ws p)) w4 (.slice (some ⟨g, 0, none⟩) td.length cap)) := by
         rcases HCASE.out with h | ⟨b, M, gg, h1, h2, h3, h4, h5, h6⟩
         · exact .inl h
         · refine .inr ⟨b, M, gg, h1, h4, h5, h6, by omega, ?_⟩
           simp [Value.ownBlock]
           omega
        clear HCASE
        rename_i wr0 _ _
        go_wp2_with fail
        go_loopw [4, 10] (fun v i wr => ∃ k : Nat, k <= N /\ i = .int .i64 k /\ Rst w1.heap.size ws.length w1 wr v (zbj ws (zdb ws p) k td) /\ SlR w1.heap.size asl N (rdK (za ws p)) wr v) (fun _ i _ => N - (intOf i).toNat)
        case atStart => exact ⟨0, Nat.zero_le _, rfl, HR4.out, HSL4.out⟩
        case round =>
         obtain ⟨k, hk, rfl, hR, hSl⟩ := hrel
         obtain ⟨tk, htk⟩ : ∃ tk, tk = zbj ws (zdb ws p) k td := ⟨_, rfl⟩
         rw [<- htk] at hR
         by_cases hlt3 : k < N
         · have hlt3' : (k : Int) < (N : Int) := by omega
           have hck : zbc mk tk := by rw [htk]; exact zed k HCO.out (fun j hj => ze9 HK.out HOB.out hpl j (by have := HN.out; omega))
           obtain ⟨l, hl⟩ := zh8 ws (zdb ws p) k td
           rw [<- htk] at hl
           have hnk : n < tk.length := by rw [hl, List.length_append]; omega
           have hpk : tk.getD n 0 = p := by rw [hl, zv5 hlt, HPD.out]
           have hkl : tk.length <= ws.length := zdy HK.out hck
           obtain ⟨g', cap', rfl, hg1', hg2', hgc'⟩ := hR.item hnk
           rw [hpk] at hgc'
           obtain ⟨bsl, M, gg, rfl, hNM, hrow, hgg, hbb, hob⟩ : ∃ b M gg, asl = some ⟨b, 0, none⟩ /\ N <= M /\ wr.rowIs b 3 M gg /\ (∀ i, i < N -> gg i = .int .i64 (fs (rdK (za ws p)) + 2 * (i : Int))) /\ w1.heap.size < b /\ (Value.slice (some ⟨g', 0, none⟩) tk.length cap').ownBlock ≠ some b := by
            rcases hSl with h | h
            · omega
            · exact h
           have hJ : k < slN (rdK (za ws p)) (rdS (za ws p)) := by have := HN.out; omega
           obtain ⟨x1, x2⟩ := zn4 hrd hJ
           obtain ⟨X, hX⟩ : ∃ X, X = zc4 ws p k := ⟨_, rfl⟩
           rw [<- hX] at x1 x2
           have hX1 : X + 1 < ws.length := by omega
           obtain ⟨Y, hY⟩ : ∃ Y : Int, Y = fs (rdK (za ws p)) + 2 * (k : Int) := ⟨_, rfl⟩
           have hY0 : 0 <= Y := by have := zjy (rdK (za ws p)); omega
           have hXY : (p : Int) + Y = (X : Int) := by rw [hX, hY]; unfold zc4; have := zjy (rdK (za ws p)); omega
           have yk : wr.cell? ⟨bsl, k, none⟩ = some (.int .i64 Y) := by rw [hrow.cell (i := k) (by omega), hgg k hlt3, hY]
           obtain ⟨t, ht⟩ : ∃ t, t = rvT ws X := ⟨_, rfl⟩
           obtain ⟨m, hm⟩ : ∃ m, m = rvN ws X := ⟨_, rfl⟩
           have HNX : Hid (zbj ws (zdb ws p) (k + 1) td = zbo ws tk t m) := by
            show zbo ws (zbj ws (zdb ws p) k td) (rvT ws (zc4 ws p k)) (rvN ws (zc4 ws p k)) = _
            rw [<- htk, <- hX, <- ht, <- hm]
           have hleads : isR t = true -> ∃ mm q : Nat, m = (mm : Int) /\ mm < ws.length /\ zi ws mm = (q : Int) /\ q < ws.length := fun hr => by
            have ho := (HK.out.objs p hpl HOB.out).1 k (by have := HN.out; omega)
            have ho1 : zcn ws X = true := by rw [hX]; exact ho.1
            have ho2 := ho.2.1
            have hmp : 0 < m := by rw [hm]; exact zgz hw ho1 (by rw [<- ht]; exact hr)
            have hl2 := ho2 (by show isR (rvT ws (zc4 ws p k)) = true; rw [<- hX, <- ht]; exact hr)
            have hm' : rvN ws (p + (fs (rdK (za ws p)) + 2 * (k : Int)).toNat) = m := by rw [hm, hX]; rfl
            rw [hm'] at hl2
            obtain ⟨u1, u2, _⟩ := hl2
            have hmk := zb6 u2
            have hmm := HK.out.marks m.toNat (by omega) hmk
            exact ⟨m.toNat, (zi ws m.toNat).toNat, by omega, by omega, by omega, by omega⟩
           have kr := ze HK1.out hR.2.2 z1
           have lr := hR.lt
           have lH : w.heap.size < wr.heap.size := by omega
           have hB1r : Below w.heap.size w wr := HB1.out.trans (hR.2.2.mono (Nat.le_of_lt z1))
           have HRD : Hid (∀ (W : World) (x : Int), x = (X : Int) -> Below wr.heap.size wr W -> Calls Tryz.prog 45 #[.slice aw ws.length cw, .int .i64 x] W fun e w' => e = .returned (.tuple #[.agg #[.int .i64 t, .int .i64 m], .bool (zcn ws X)]) /\ Below W.heap.size W w') := fun W x hx hW => by
            rw [ht, hm]
            exact zdj _ ws _ X _ hx (HS.out.below (zc hB1r hW)) hn hw hX1
           have lbs : bsl < wr.heap.size := hrow.lt
           have KP : ∀ V, Below wr.heap.size wr V -> (Below wr.heap.size wr V /\ V.cell? ⟨w.heap.size, 0, none⟩ = some (.slice aw ws.length cw) /\ V.cell? ⟨g', n, none⟩ = some (.int .i64 (p : Int)) /\ V.cell? ⟨bsl, k, none⟩ = some (.int .i64 Y)) := fun V hV => ⟨hV, by rw [hV.cell (p := ⟨w.heap.size, 0, none⟩) lH, kr 0]; rfl, by rw [hV.cell (p := ⟨g', n, none⟩) hg2']; exact hgc', by rw [hV.cell (p := ⟨bsl, k, none⟩) lbs]; exact yk⟩
           have HXw : Hid (IntKind.i64.wrap ((p : Int) + Y) = (X : Int)) := by show IntKind.i64.wrap ((p : Int) + Y) = (X : Int); rw [IntKind.wrap_i64]; omega
           have HXy : Hid ((p : Int) + Y = (X : Int)) := hXY
           have HRk : Hid (Rst w1.heap.size ws.length w1 wr (.slice (some ⟨g', 0, none⟩) tk.length cap') tk) := hR
           have HLk : Hid (SlR w1.heap.size (some ⟨bsl, 0, none⟩) N (rdK (za ws p)) wr (.slice (some ⟨g', 0, none⟩) tk.length cap')) := hSl
           have hnk' : (n : Int) < (tk.length : Int) := by omega
           have hkl' : (tk.length : Int) <= (ws.length : Int) := by omega
           clear hR hSl hrow hgg hob hck hl hpk htk hX hY hXY ht hm x1 x2 hB1r hgc' yk
           go_upto_region 21 with fail
           go_cut [11, 12] from 92 to 106 (fun s11 s12 wc => ∃ cV : Nat, s11 = .pointer (some ⟨cV, 0, none⟩) /\ s12 = .bool (zcn ws X) /\ wc.cell? ⟨cV, 0, none⟩ = some (.int .i64 t) /\ wc.cell? ⟨cV, 1, none⟩ = some (.int .i64 m) /\ Below wr.heap.size wr wc)
           case first =>
            clear kr
            go_region_held3 (fun V => (Below wr.heap.size wr V /\ V.cell? ⟨w.heap.size, 0, none⟩ = some (.slice aw ws.length cw) /\ V.cell? ⟨g', n, none⟩ = some (.int .i64 (p : Int)) /\ V.cell? ⟨bsl, k, none⟩ = some (.int .i64 Y))) (first | exact KP _ (by assumption) | exact KP _ (Below.refl _ _) | exact KP _ (Below.refl _ _).drew | exact KP _ (zbd (And.left (by assumption)) _) | (refine KP _ ?_; repeat (first | assumption | exact And.left (by assumption) | refine Below.setCell ?_ (by first | exact Nat.le_refl _ | (simp; done) | (simp; omega)) _ | refine zbd ?_ _))) (first | (go_at_call 45; refine (HRD.out _ _ (by first | exact HXw.out | exact HXy.out) (And.left (by assumption))).mono ?_; rintro e w' ⟨rfl, hb⟩; have hB3 := zc (w := wr) (And.left (by assumption)) hb; have hz3 := hB3.size; obtain ⟨hc, hf⟩ := zo hb; have hz := hb.size; simp at hz; clear hb))
            · go_wp2_with fail
              go_meet
              exact ⟨_, rfl, rfl, by simp [go_sem], by simp [go_sem], zbd hB3 _⟩
            · go_wp2_with fail
              go_meet
              have p0 : (w'.cell? ⟨wr.heap.size, 0, none⟩).isSome = true := by rw [hc _ _ (by simp)]; simp [go_sem]
              have p1 : (w'.cell? ⟨wr.heap.size, 1, none⟩).isSome = true := by rw [hc _ _ (by simp)]; simp [go_sem]
              exact ⟨_, rfl, rfl, by simp [go_sem, p0, p1], by simp [go_sem, p0, p1], (hB3.setCell (p := ⟨wr.heap.size, 0, none⟩) (Nat.le_refl _) _).setCell (p := ⟨wr.heap.size, 1, none⟩) (Nat.le_refl _) _⟩
           case rest =>
            obtain ⟨cV, rfl, rfl, cv0, cv1, hBc⟩ := hcut
            have lcV : cV < wc.heap.size := World.block_lt_of_cell? _ ⟨cV, 0, none⟩ cv0
            have kc := ze kr hBc lH
            have lHc : w.heap.size < wc.heap.size := Nat.lt_of_lt_of_le lH hBc.size
            have lsc : w1.heap.size < wc.heap.size := Nat.lt_of_lt_of_le lr hBc.size
            have HRc : Hid (Rst w1.heap.size ws.length w1 wc (.slice (some ⟨g', 0, none⟩) tk.length cap') tk) := HRk.out.below hBc
            have HLc : Hid (SlR w1.heap.size (some ⟨bsl, 0, none⟩) N (rdK (za ws p)) wc (.slice (some ⟨g', 0, none⟩) tk.length cap')) := HLk.out.below hBc
            clear KP kr HRk HLk hBc HRD HXw HXy
            cases hr : isR t with
            | false =>
              have HRF : Hid (isR t = false) := hr
              have HE : Hid (zbo ws tk t m = tk) := zn2 hr
              clear hleads hr
              go_wp2_with (go_at_call 42; refine (zaq _ _ _).mono ?_; rw [HRF.out]; rintro e w4 ⟨rfl, b4⟩; obtain ⟨hc4, hf4⟩ := zo b4; have z4 := b4.size; have ls4 : w1.heap.size < w4.heap.size := Nat.lt_of_lt_of_le lsc z4; have lH4 : w.heap.size < w4.heap.size := Nat.lt_of_lt_of_le lHc z4; have lV4 : cV < w4.heap.size := Nat.lt_of_lt_of_le lcV z4; have Rn4 : Hid (Rst w1.heap.size ws.length w1 w4 (.slice (some ⟨g', 0, none⟩) tk.length cap') tk) := HRc.out.below b4; have Sl4 : Hid (SlR w1.heap.size (some ⟨bsl, 0, none⟩) N (rdK (za ws p)) w4 (.slice (some ⟨g', 0, none⟩) tk.length cap')) := HLc.out.below b4; clear b4)
              go_roundw
              case rel => exact ⟨k + 1, by omega, by go_num, by rw [HNX.out, HE.out]; exact Rn4.out, Sl4.out⟩
              case measure => simp [intOf]; omega
            | true =>
              have HRF : Hid (isR t = true) := hr
              obtain ⟨mm, q, rfl, hmw, hql, hqw⟩ := hleads hr
              have HQL : Hid (zi ws mm = (q : Int)) := hql
              have hqq : (zi ws (mm : Int).toNat).toNat = q := by rw [Int.toNat_natCast, hql, Int.toNat_natCast]
              have hqw' : (q : Int) < (ws.length : Int) := by omega
              by_cases hm : q ∈ tk
              · have HE : Hid (zbo ws tk t (mm : Int) = tk) := zn3 hqq hm
                have xs : wc.cell? ⟨w1.heap.size, q, none⟩ = some (.bool true) := by rw [HRc.out.2.1.cell (by omega)]; simp [hm]
                clear hleads hr hm hqq hql
                go_wp2_with (first | (go_at_call 42; refine (zaq _ _ _).mono ?_; rw [HRF.out]; rintro e w4 ⟨rfl, b4⟩; obtain ⟨hc4, hf4⟩ := zo b4; have z4 := b4.size; have ls4 : w1.heap.size < w4.heap.size := Nat.lt_of_lt_of_le lsc z4; have lH4 : w.heap.size < w4.heap.size := Nat.lt_of_lt_of_le lHc z4; have lV4 : cV < w4.heap.size := Nat.lt_of_lt_of_le lcV z4; have Rn4 : Hid (Rst w1.heap.size ws.length w1 w4 (.slice (some ⟨g', 0, none⟩) tk.length cap') tk) := HRc.out.below b4; have Sl4 : Hid (SlR w1.heap.size (some ⟨bsl, 0, none⟩) N (rdK (za ws p)) w4 (.slice (some ⟨g', 0, none⟩) tk.length cap')) := HLc.out.below b4; clear b4) | (go_at_call 46; refine (zce _ _ _ _ _ _ _ _ _ _ _ _ _ _ _ mm _ rfl (HS.out.below (HB1.out.trans (Rn4.out.2.2.mono (Nat.le_of_lt z1)))) hn hw hmw).mono ?_; rw [HQL.out]; rintro e w5 ⟨rfl, b5⟩; obtain ⟨hc5, hf5⟩ := zo b5; have z5 := b5.size; have ls5 : w1.heap.size < w5.heap.size := Nat.lt_of_lt_of_le ls4 z5; have Rn5 : Hid (Rst w1.heap.size ws.length w1 w5 (.slice (some ⟨g', 0, none⟩) tk.length cap') tk) := Rn4.out.below b5; have Sl5 : Hid (SlR w1.heap.size (some ⟨bsl, 0, none⟩) N (rdK (za ws p)) w5 (.slice (some ⟨g', 0, none⟩) tk.length cap')) := Sl4.out.below b5; clear b5))
                go_roundw
                case rel => exact ⟨k + 1, by omega, by go_num, by rw [HNX.out, HE.out]; exact Rn5.out, Sl5.out⟩
                case measure => simp [intOf]; omega
              · have HE : Hid (zbo ws tk t (mm : Int) = tk ++ [q]) := zlk hr hqq hm
                have HM : Hid (q ∉ tk) := hm
                have xs : wc.cell? ⟨w1.heap.size, q, none⟩ = some (.bool false) := by rw [HRc.out.2.1.cell (by omega)]; simp [hm]
                have fz := HRc.out.2.1.frozen
                clear hleads hr hm hqq hql
                go_wp2_with (first | (go_at_call 42; refine (zaq _ _ _).mono ?_; rw [HRF.out]; rintro e w4 ⟨rfl, b4⟩; obtain ⟨hc4, hf4⟩ := zo b4; have z4 := b4.size; have ls4 : w1.heap.size < w4.heap.size := Nat.lt_of_lt_of_le lsc z4; have lH4 : w.heap.size < w4.heap.size := Nat.lt_of_lt_of_le lHc z4; have lV4 : cV < w4.heap.size := Nat.lt_of_lt_of_le lcV z4; have Rn4 : Hid (Rst w1.heap.size ws.length w1 w4 (.slice (some ⟨g', 0, none⟩) tk.length cap') tk) := HRc.out.below b4; have Sl4 : Hid (SlR w1.heap.size (some ⟨bsl, 0, none⟩) N (rdK (za ws p)) w4 (.slice (some ⟨g', 0, none⟩) tk.length cap')) := HLc.out.below b4; clear b4) | (go_at_call 46; refine (zce _ _ _ _ _ _ _ _ _ _ _ _ _ _ _ mm _ rfl (HS.out.below (HB1.out.trans (Rn4.out.2.2.mono (Nat.le_of_lt z1)))) hn hw hmw).mono ?_; rw [HQL.out]; rintro e w5 ⟨rfl, b5⟩; obtain ⟨hc5, hf5⟩ := zo b5; have z5 := b5.size; have ls5 : w1.heap.size < w5.heap.size := Nat.lt_of_lt_of_le ls4 z5; have Rn5 : Hid (Rst w1.heap.size ws.length w1 w5 (.slice (some ⟨g', 0, none⟩) tk.length cap') tk) := Rn4.out.below b5; have Sl5 : Hid (SlR w1.heap.size (some ⟨bsl, 0, none⟩) N (rdK (za ws p)) w5 (.slice (some ⟨g', 0, none⟩) tk.length cap')) := Sl4.out.below b5; clear b5) | (at_builtin; refine wpList_append_own_at _ rfl _ _ 64 rfl (w1.heap.size + 1) 3 i0 (.int .i64 0) 1 8 Tryz.underlying64 hi hz0 hz1 hz2 rfl (by decide) _ tk.length (zfi tk) rfl ((Rn5.out.marked _ _).alloc _) ⟨_, 0, none⟩ 1 1 [.int .i64 (q : Int)] rfl rfl (fun j u hj => by have h9 := cell_one_new (w5.setCell ⟨w1.heap.size, q, none⟩ (.bool true)) (.int .i64 (q : Int)) 3 j u hj; simpa using h9) (ints_oneCell .i64 [(q : Int)]) (by unfold maxLen; omega) (by omega) (by simp; omega) ?_))
                intro v' w6 hown hgrow _ hloc
                have R6 := Rn5.out.put hqw HM.out hown hgrow
                have S6 := Sl5.out.put hgrow (by simpa using hloc)
                clear hown hgrow hloc
                go_wp2
                go_roundw
                case rel => exact ⟨k + 1, by omega, by go_num, by rw [HNX.out, HE.out]; exact R6, S6⟩
                case measure => simp [intOf]; omega
         · have hge3 : (N : Int) <= (k : Int) := by omega
           have hkN : k = N := by omega
           have HGO : Hid (Bfs ws (n + 1) tk R) := by
            have := HBF.out.step hlt hll
            rw [<- HPD.out] at this
            have e : tk = zf8 ws p td := by rw [htk, hkN, HN.out]; rfl
            rw [e]
            exact this
           have HCK : Hid (zbc mk tk) := by show zbc mk tk; rw [htk]; exact zed k HCO.out (fun j hj => ze9 HK.out HOB.out hpl j (by have := HN.out; omega))
           obtain ⟨l, hl⟩ := zh8 ws (zdb ws p) k td
           rw [<- htk] at hl
           have HSU : Hid (sm + rdS (za ws p) + 1 = zcd ws (tk.take (n + 1))) := by show _ = _; rw [HSM.out, hl, List.take_append_of_le_length (by omega)]
           have HLE : Hid (n + 1 <= tk.length) := by show _ <= _; rw [hl, List.length_append]; omega
           have HRk : Hid (Rst w1.heap.size ws.length w1 wr _ tk) := hR
           clear htk hl hSl hkN hR
           go_wp2
           go_roundw
           case rel => exact ⟨n + 1, tk, HLE.out, by go_num, by rw [HSU.out], HCK.out, HGO.out, HRk.out⟩
           case measure => simp [intOf]; omega
     · have hge : (td.length : Int) <= (n : Int) := by omega
       obtain ⟨ta, tc, rfl⟩ := hR.head
       have hRR : R = td := hbfs.done hlt
       have HSU : Hid (zcd ws (td.take n) = zcd ws R) := by show _ = _; rw [hRR, List.take_of_length_le (by omega)]
       have HBF : Hid (Below w.heap.size w wr) := HB1.out.trans (hR.2.2.mono (Nat.le_of_lt z1))
       clear hRR hR hbfs hcome
       go_wp2
       go_ret
       exact ⟨zby HSU.out, HBF.out⟩
theorem zul {w : World} {B C es : Nat} {t : TypeId} {v : Value} {n : Nat} {xs : List Value} (h : w.ownsRow B t es v n xs) (hC : C <= B) : w.ownsRow C t es v n xs := by
 obtain ⟨h1, h2⟩ := h
 refine ⟨h1, ?_⟩
 rcases h2 with h2 | ⟨g, cap, cur, hv, hg, r⟩
 · exact .inl h2
 · exact .inr ⟨g, cap, cur, hv, Nat.le_trans hC hg, r⟩
end Go.Proofs.YtmckcnmlhgpnhaaGreat
