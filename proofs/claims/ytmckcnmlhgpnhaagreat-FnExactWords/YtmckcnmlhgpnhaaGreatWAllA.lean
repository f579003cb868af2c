/- - -/
import Derived.Test.YtmckcnmlhgpnhaaGreatWBrD
import Derived.Test.YtmckcnmlhgpnhaaGreatWModelA
namespace Go.Proofs.YtmckcnmlhgpnhaaGreat
set_option maxRecDepth 20000
open Go.RowKit Go.Maps
set_option linter.unusedSimpArgs false
set_option linter.unusedVariables false
theorem zoi (aw : Option Addr) (cw : Nat) (ws : List Int) (smz toh top : Int) (cyc : Bool) (sn old cpz sr : Int) (ar : Option Addr) (cr : Nat) (rs : List (Int × Int)) (w : World) (hn : ws.length <= 1048576) (hn2 : rs.length <= 1048576) (h : mOk ws.length smz toh top sr rs.length = false) :
 Calls Tryz.prog 101 #[.agg #[.slice aw ws.length cw, .int .i64 smz, .int .i64 toh, .int .i64 top, .bool cyc, .int .i64 sn, .int .i64 old, .int .i64 cpz, .int .i64 sr, .slice ar rs.length cr]] w fun e w' => e = .returned (.tuple #[.pointer none, .bool false]) /\ Below w.heap.size w w' := by
 go_enter Tryz.func101, Tryz.ntmps101
 go_wp2_with (go_at_call 112; refine (zg1 aw cw ws smz toh top cyc sn old cpz sr ar cr rs _ hn hn2).mono ?_; rw [h]; rintro e w1 ⟨rfl, b1⟩)
 go_ret2
 exact ⟨rfl, zd b1⟩
theorem zjo {W : World} {B : Nat} (h : W.heap[B]? = some (.map #[] 0)) : zb7 W B 0 (fun _ => false) := by
 obtain ⟨D, ⟨es, clock, hb, r⟩, hh⟩ := zb7.made W
 rw [Go.Deep.blk_alloc_new] at hb
 simp only [Option.some.injEq, Obj.map.injEq] at hb
 obtain ⟨rfl, rfl⟩ := hb
 exact ⟨D, ⟨_, _, h, r⟩, hh⟩
theorem zqf {q : Bool} (h : q = true -> False) : q = false := by
 cases q with
 | false => rfl
 | true => exact (h rfl).elim
theorem zgb {q : Bool} (h : q = false -> False) : q = true := by
 cases q with
 | true => rfl
 | false => exact (h rfl).elim
theorem zsu {α β : Type} {p : α -> Prop} {r : α -> β -> Prop} (h : ∃ x y, p x /\ r x y) : ∃ x, p x := by
 obtain ⟨x, _, g, _⟩ := h
 exact ⟨x, g⟩
theorem zdm {B : Nat} {w : World} {v : Value} {pl : List Nat} (h : w.ownsRow B 3 1 v pl.length (pl.map fun p : Nat => Value.int .i64 (p : Int))) : SlF w.heap.size w v pl.length pl.length (fun i => .int .i64 ((pl.getD i 0 : Nat) : Int)) := by
 obtain ⟨_, ⟨rfl, h0⟩ | ⟨g, cap, cur, rfl, hB, hg, hn, hm, hs, ht⟩⟩ := h
 · rw [h0]; exact ⟨none, 0, rfl, .inl rfl⟩
 · refine ⟨_, cap, rfl, .inr ⟨g, 0, rfl, (Array.getElem?_eq_some_iff.1 hg).1, (Array.getElem?_eq_some_iff.1 hg).1, fun i hi => ?_⟩⟩
   have h1 : (cur.toList.take (pl.length * 1))[i]? = some (.int .i64 ((pl.getD i 0 : Nat) : Int)) := by
    rw [ht, List.getElem?_map, List.getD_eq_getElem?_getD, List.getElem?_eq_getElem hi]; rfl
   rw [List.getElem?_take_of_lt (by omega)] at h1
   have h2 : cur[i]? = some (.int .i64 ((pl.getD i 0 : Nat) : Int)) := by simpa using h1
   simp [World.cell?, hg, h2]
theorem zi4 (w : World) (k : Nat) : w.drew.heap[k]? = w.heap[k]? := rfl
theorem zdn {w : World} {o : Obj} {k : Nat} (h : k = w.heap.size) : (w.alloc o).heap[k]? = some o := by rw [h]; exact Go.Deep.blk_alloc_new _ _
theorem zlo {w : World} {o : Obj} {k : Nat} (h : k = w.heap.size) : (w.alloc o).drew.heap[k]? = some o := zdn h
theorem zfb {w : World} {o : Obj} {k : Nat} (h : k < w.heap.size) : (w.alloc o).heap[k]? = w.heap[k]? := Go.Deep.blk_alloc_lt _ _ _ h
theorem zuv {B : Nat} {W : World} {sv bl bs bc n : Nat} {C : Array Value} (h1 : W.heap[sv]? = some (.cells C 167)) (h2 : W.heap[bl]? = some (.cells (madeCells #[.int .i64 0] n) 3)) (h3 : W.heap[bs]? = some (.map #[] 0)) (h4 : W.heap[bc]? = some (.map #[] 0)) (ge : B <= sv /\ B <= bl /\ B <= bs /\ B <= bc) (ne : sv ≠ bl /\ sv ≠ bs /\ sv ≠ bc /\ bl ≠ bs /\ bl ≠ bc /\ bs ≠ bc) (ws : List Int) :
 zad B W.heap.size W sv bl bs bc n C (.slice none 0 0) (zcf []) [] 0 0 (za4 ws []) (fun _ => false) := by
 have lt : ∀ {k : Nat} {o : Obj}, W.heap[k]? = some o -> k < W.heap.size := fun h => (Array.getElem?_eq_some_iff.1 h).1
 refine ⟨⟨C, h1, rfl, fun i hi => by simp [Array.getD, hi]⟩, ⟨_, h2, size_madeCells _ _, fun i hi => by simp [madeCells, hi, Nat.mod_one, zcf]⟩, World.ownsRow_nil _ _ _ _, ?_, zjo h4, ge, ⟨lt h1, lt h2, lt h3, lt h4⟩, ne, Nat.le_refl _⟩
 obtain ⟨D, hD, hh⟩ := zjo h3
 exact ⟨D, hD, fun x hx => (hh x hx).trans (by simp [za4, zag])⟩
set_option maxHeartbeats 2000000 in
theorem zoj (b off cw : Nat) (ws : List Int) (smz toh top : Int) (cyc : Bool) (sn old cpz sr : Int) (ar : Option Addr) (cr : Nat) (rs : List (Int × Int)) (y : Nat -> Int) (Tr : Nat) (S T F : Nat) (w : World) (hb : b < w.heap.size) (hc : ∀ i, i < ws.length -> w.cell? ⟨b, off + i, none⟩ = some (.int .u64 (za ws i))) (hw : zg ws) (hcw : ws.length <= cw) (hrt : SlF Tr w (.slice ar rs.length cr) rs.length (2 * rs.length) (fun i => .int .i64 (y i))) (hm : mOk ws.length smz toh top sr rs.length = true) (hrl : rs.length <= 24) (s0 : 256 <= smz) (s1 : smz <= 4000) (hl2 : (ws.length : Int) = 2 * smz) (t0 : 0 <= toh) (t1 : toh <= 1) (hSe : toh * smz + 1 = S) (hT : top = T) (hF : (1 - toh) * smz + 1 = F) (hST : S <= T) (hTE : top <= (toh + 1) * smz) :
 Calls Tryz.prog 101 #[(.agg #[.slice (some ⟨b, off, none⟩) ws.length cw, .int .i64 smz, .int .i64 toh, .int .i64 top, .bool cyc, .int .i64 sn, .int .i64 old, .int .i64 cpz, .int .i64 sr, .slice ar rs.length cr])] w fun e w' => ∃ q sv, e = .returned (.tuple #[.pointer (some ⟨sv, 0, none⟩), .bool q]) /\ Below w.heap.size w w' /\
  (q = true -> ∃ L O bl cl bs bc Bp vp', zbq ws sr S T cyc F smz toh top old cpz sn L O /\ (zax ws (zm ws L O) (S : Int) (T : Int) cyc sn (L ++ zl ws O) (L ++ zl ws O).length /\ zbs ws (L ++ zl ws O) (L ++ zl ws O).length /\ zbl ws (zm ws L O) (S : Int) (T : Int) y rs.length) /\ zad w.heap.size Bp w' sv bl bs bc ws.length ((fun vp => #[.slice (some ⟨b, off, none⟩) ws.length cw, .int .i64 smz, .int .i64 toh, .int .i64 top, .bool cyc, .int .i64 sn, .int .i64 old, .int .i64 cpz, .int .i64 sr, .slice ar rs.length cr, .slice (some ⟨bl, 0, none⟩) ws.length cl, vp, .map (some bs), .map (some bc)]) vp') vp' (zm ws L O) (L ++ zl ws O) (L.length + O.length) O.length (za4 ws (L ++ zl ws O)) (zbn ws O)) /\
  (q = false -> ¬ ∃ L O, zbq ws sr S T cyc F smz toh top old cpz sn L O /\ (zax ws (zm ws L O) (S : Int) (T : Int) cyc sn (L ++ zl ws O) (L ++ zl ws O).length /\ zbs ws (L ++ zl ws O) (L ++ zl ws O).length /\ zbl ws (zm ws L O) (S : Int) (T : Int) y rs.length)) := by
 have hn : ws.length <= 8000 := by omega
 have hn' : ws.length <= 1048576 := by omega
 have HC : Hid (∀ i, i < ws.length -> w.cell? ⟨b, off + i, none⟩ = some (.int .u64 (za ws i))) := hc
 have hmk := fun (w : World) => run_make_row' (P := Tryz.prog) 64 3 (.int .i64 0) 8 Tryz.underlying64 zrm rfl .i64 .i64 ws.length (by omega) (by omega) w
 have hmm := @run_makeMap Tryz.prog
 have HT : Hid (top = (T : Int)) := hT
 have HSe : Hid (toh * smz + 1 = (S : Int)) := hSe
 have HF : Hid ((1 - toh) * smz + 1 = (F : Int)) := hF
 have HL2 : Hid ((ws.length : Int) = 2 * smz) := hl2
 have hTn : T <= ws.length := by
  have h1 : toh = 0 \/ toh = 1 := by omega
  rcases h1 with e | e
  · subst e; simp at hTE; omega
  · subst e; simp at hTE; omega
 have hTE' : Hid (top <= (toh + 1) * smz) := hTE
 clear hc hT hSe hF hl2 hTE
 go_enter Tryz.func101, Tryz.ntmps101
 go_upto_region 3 with (go_at_call 112; refine (zg1 _ _ _ _ _ _ _ _ _ _ _ _ _ _ _ hn' (by omega)).mono ?_; rw [hm]; rintro e w1 ⟨rfl, b1⟩)
 have B1 := zd b1
 have k1 := zp b1 (by simp)
 have z1 := zq b1
 clear b1
 go_cut [4] from 9 to 17 (fun s4 wx => ∃ sv bl bs bc : Nat, s4 = .pointer (some ⟨sv, 0, none⟩) /\ zad w.heap.size wx.heap.size wx sv bl bs bc ws.length ((fun (vp : Value) (cl : Nat) => #[.slice (some ⟨b, off, none⟩) ws.length cw, .int .i64 smz, .int .i64 toh, .int .i64 top, .bool cyc, .int .i64 sn, .int .i64 old, .int .i64 cpz, .int .i64 sr, .slice ar rs.length cr, .slice (some ⟨bl, 0, none⟩) ws.length cl, vp, .map (some bs), .map (some bc)]) (.slice none 0 0) ws.length) (.slice none 0 0) (zcf []) [] 0 0 (za4 ws []) (fun _ => false) /\ Below w.heap.size w wx)
 case first =>
  have KP : ∀ V, Below w1.heap.size w1 V -> (Below w1.heap.size w1 V /\ (∀ i, V.cell? ⟨w.heap.size, i, none⟩ = (#[.slice (some ⟨b, off, none⟩) ws.length cw, .int .i64 smz, .int .i64 toh, .int .i64 top, .bool cyc, .int .i64 sn, .int .i64 old, .int .i64 cpz, .int .i64 sr, .slice ar rs.length cr] : Array Value)[i]?)) := fun V hV => ⟨hV, ze k1 hV z1⟩
  have b1' := (Below.refl w1.heap.size w1).drew
  go_region_held3 (fun V => Below w1.heap.size w1 V /\ (∀ i, V.cell? ⟨w.heap.size, i, none⟩ = (#[.slice (some ⟨b, off, none⟩) ws.length cw, .int .i64 smz, .int .i64 toh, .int .i64 top, .bool cyc, .int .i64 sn, .int .i64 old, .int .i64 cpz, .int .i64 sr, .slice ar rs.length cr] : Array Value)[i]?)) (first | assumption | exact KP _ b1' | exact KP _ (by assumption) | exact KP _ (zbd (And.left (by assumption)) _) | (refine KP _ ?_; repeat (first | exact b1' | exact Below.refl _ _ | assumption | exact And.left (by assumption) | refine Below.drew ?_ | refine zbd ?_ _))) (fail)
  all_goals
   go_wp2_with fail
   go_meet
   have hBB : ∀ o0 o1 o2 o3 : Obj, Below w.heap.size w ((((w1.alloc o0).alloc o1).alloc o2).alloc o3).drew := fun o0 o1 o2 o3 => zc B1 (zbd (zbd (zbd (zbd (Below.refl _ _) _) _) _) _).drew
   refine ⟨_, _, _, _, rfl, zuv (zlo (by simp)) ?h2 ?h3 ?h4 ?ge ?ne ws, hBB _ _ _ _⟩
   case h2 =>
    rw [zi4]
    repeat (first | (refine zdn ?_; simp; done) | rw [zfb (by simp <;> omega)])
   case h3 =>
    rw [zi4]
    repeat (first | (refine zdn ?_; simp; done) | rw [zfb (by simp <;> omega)])
   case h4 =>
    rw [zi4]
    repeat (first | (refine zdn ?_; simp; done) | rw [zfb (by simp <;> omega)])
   case ge => exact ⟨by omega, by omega, by omega, by omega⟩
   case ne => exact ⟨by omega, by omega, by omega, by omega, by omega, by omega⟩
 case rest =>
  obtain ⟨sv, bl, bs, bc, rfl, hS, hBc⟩ := hcut
  dsimp only at hS
  have HRT : Hid (SlF w.heap.size w (.slice ar rs.length cr) rs.length (2 * rs.length) (fun i => .int .i64 (y i))) := hrt.here
  clear hmk hmm k1 B1 hrt hm
  by_cases hG : zdg ws sr S T
  · have HG : Hid (zdg ws sr S T) := hG
    obtain ⟨L, hL, hLn⟩ := hG
    have HL : Hid (zn (nx1 ws sr) S T L) := hL
    have HLN : Hid ((zag ws L).Nodup) := hLn
    have huni : ∀ L' O', zbq ws sr S T cyc F smz toh top old cpz sn L' O' -> L' = L := fun L' O' g => g.1.use.unique hL
    by_cases hO : ∃ O, zbq ws sr S T cyc F smz toh top old cpz sn L O
    · have HO' : Hid (∃ O, zbq ws sr S T cyc F smz toh top old cpz sn L O) := hO
      obtain ⟨O, hSG⟩ := hO
      have HSG : Hid (zbq ws sr S T cyc F smz toh top old cpz sn L O) := hSG
      have hlaid : zar ws sr S T cyc F old cpz sn L O := by
       have hnn : 0 <= toh * smz := Int.mul_nonneg t0 (by omega)
       have hnn2 : 0 <= (1 - toh) * smz := Int.mul_nonneg (by omega) (by omega)
       have e1 := HSe.out
       have e2 := HF.out
       have e3 := hTE'.out
       have e4 := HT.out
       have e5 := HL2.out
       have hcs : toh = 0 \/ toh = 1 := by omega
       refine ⟨hSG.1, fun hc => ?_, by omega, by omega, hTn, fun hc => ?_⟩
       · have h3 := of_decide_eq_true (hSG.2.2.2 hc)
         rcases hcs with rfl | rfl
         · simp [zci] at h3 e1 e2 e3; omega
         · simp [zci] at h3 e1 e2 e3; omega
       · have h3 := of_decide_eq_true (hSG.2.2.2 hc)
         rcases hcs with rfl | rfl
         · simp [zci] at h3 e1 e2 e3; omega
         · simp [zci] at h3 e1 e2 e3; omega
      have huni2 : ∀ L' O', zbq ws sr S T cyc F smz toh top old cpz sn L' O' -> L' = L /\ O' = O := fun L' O' g => za1.same hSG.1 g.1
      have HPLN : Hid ((L ++ zl ws O).length <= 1048575) := by
       show (L ++ zl ws O).length <= 1048575
       have h1 := hSG.1.use.len
       have h2 : O.length <= ws.length := by
        cases hcc : cyc with
        | false => rw [hSG.1.still hcc]; simp
        | true =>
          have g1 := (hSG.1.runs hcc).1.len
          have g2 := hlaid.On hcc
          omega
       have h3 : (zl ws O).length <= O.length := List.length_filter_le _ _
       rw [List.length_append]
       omega
      have HLR : Hid (∀ i, i < ws.length -> 0 <= zm ws L O i /\ zm ws L O i < ws.length) := fun i hi => hlaid.leadIn i hi
      have HIN : Hid (∀ p ∈ L ++ zl ws O, zai (za ws p) = true /\ p + (rdS (za ws p)).toNat < ws.length) := fun p hp => hlaid.lt hp
      have HLT : Hid (∀ p ∈ L ++ zl ws O, p < ws.length) := fun p hp => by have := (hlaid.lt hp).2; omega
      by_cases hBD : zax ws (zm ws L O) (S : Int) (T : Int) cyc sn (L ++ zl ws O) (L ++ zl ws O).length
      · have HBD : Hid (zax ws (zm ws L O) (S : Int) (T : Int) cyc sn (L ++ zl ws O) (L ++ zl ws O).length) := hBD
        have HTI : Hid (∀ p ∈ L ++ zl ws O, rdK (za ws p) = 2 -> zhg ws p) := fun p hp hk => hlaid.tabIs hw hBD hp hk
        by_cases hTB : zbs ws (L ++ zl ws O) (L ++ zl ws O).length
        · have HTB : Hid (zbs ws (L ++ zl ws O) (L ++ zl ws O).length) := hTB
          by_cases hRB : zbl ws (zm ws L O) (S : Int) (T : Int) y rs.length
          · have HRB : Hid (zbl ws (zm ws L O) (S : Int) (T : Int) y rs.length) := hRB
            clear hBD hTB hRB huni2 hlaid huni hSG hL hLn
            go_wp2_with (first | (go_at_call 132; refine (zec b off cw ws smz toh top cyc sn old cpz sr ar cr rs w.heap.size wc.heap.size sv bl ws.length bs bc (.slice none 0 0) 0 (fun _ => false) S T _ hS (Nat.lt_of_lt_of_le hb hBc.size) hb (zh hb HC.out hBc).2 hn hw t0 t1 s0 s1 HSe.out HT.out hST hTn).mono ?_; rintro e w2 ⟨q, rfl, hq, hB2, hL2⟩; obtain rfl : q = true := hq.2 HG.out; obtain ⟨L', vp1, hLc, hLn', hS2⟩ := hL2 rfl; obtain rfl : L' = L := hLc.unique HL.out; clear hq hL2 hLc hLn'; have B2 := hBc.trans hB2; clear hB2) | (go_at_call 133; refine (zej b off cw ws smz toh top cyc sn old cpz sr ar cr rs w.heap.size wc.heap.size sv bl ws.length bs bc vp1 S T F L' _ hS2 (zh hb HC.out B2).1 hb (zh hb HC.out B2).2 hn hw t0 t1 s0 s1 HL2.out HSe.out HT.out HF.out hTn hTE'.out hST HL.out HLN.out).mono ?_; rintro e w3 ⟨q, rfl, hB3, hq1, hq2⟩; obtain rfl : q = true := zgb (fun g => hq2 g HO'.out); obtain ⟨O', vp2, hSG', hS3⟩ := hq1 rfl; obtain rfl : O' = O := (za1.same HSG.out.1 hSG'.1).2; clear hq1 hq2 hSG'; have B3 := B2.trans hB3; clear hB3; obtain ⟨av, cv, rfl⟩ := zdt hS3.own) | (go_at_call 134; refine (ze7 b off cw ws smz toh top cyc sn old cpz sr ar cr rs sv bl ws.length bs bc av cv (zm ws L' O') (L' ++ zl ws O') _ (S : Int) _ hS3.lsv hS3.cells hS3.lbl hS3.leads (zh hb HC.out B3).1 (zh hb HC.out B3).2 hn' hw hcw (zdm hS3.own) HPLN.out HLR.out t0 t1 s0 s1 HSe.out HIN.out).mono ?_; rw [HT.out]; rintro e w4 ⟨q, rfl, hq, b4⟩; obtain rfl : q = true := hq.2 HBD.out; clear hq; have B4 := zc B3 b4; have hS4 := hS3.below b4; clear b4) | (go_at_call 135; refine (zgo b off cw ws smz toh top cyc sn old cpz sr ar cr rs sv bl ws.length bs bc av cv (L' ++ zl ws O') _ _ hS4.lsv hS4.cells (zh hb HC.out B4).1 (zh hb HC.out B4).2 hn' hw (zdm hS4.own) HPLN.out HLT.out HTI.out).mono ?_; rintro e w5 ⟨q, rfl, hq, b5⟩; obtain rfl : q = true := hq.2 HTB.out; clear hq; have B5 := zc B4 b5; have hS5 := hS4.below b5; clear b5) | (go_at_call 136; refine (zka b off cw ws smz toh top cyc sn old cpz sr ar cr rs sv bl ws.length bs bc (.slice av (L' ++ zl ws O').length cv) (zm ws L' O') y w.heap.size (S : Int) _ hS5.lsv hS5.cells hS5.lbl hS5.leads (zh hb HC.out B5).1 (zh hb HC.out B5).2 hn' hw (HRT.out.below B5 (Nat.le_refl _)) hrl t0 t1 s0 s1 HSe.out HLR.out).mono ?_; rw [HT.out]; rintro e w6 ⟨q, rfl, hq, b6⟩; obtain rfl : q = true := hq.2 HRB.out; clear hq; have B6 := zc B5 b6; have hS6 := hS5.below b6; clear b6))
            go_ret2
            exact ⟨true, sv, rfl, B6, fun _ => ⟨L', O', bl, ws.length, bs, bc, wc.heap.size, _, HSG.out, ⟨HBD.out, HTB.out, HRB.out⟩, hS6⟩, fun g => by simp at g⟩
          · have HRB : Hid (¬ zbl ws (zm ws L O) (S : Int) (T : Int) y rs.length) := hRB
            have HBAD : Hid (¬ ∃ L O, zbq ws sr S T cyc F smz toh top old cpz sn L O /\ (zax ws (zm ws L O) (S : Int) (T : Int) cyc sn (L ++ zl ws O) (L ++ zl ws O).length /\ zbs ws (L ++ zl ws O) (L ++ zl ws O).length /\ zbl ws (zm ws L O) (S : Int) (T : Int) y rs.length)) := by
             rintro ⟨L', O', g1, g2, g3, g4⟩
             obtain ⟨rfl, rfl⟩ := huni2 L' O' g1
             exact hRB g4
            clear hBD hTB hRB huni2 hlaid huni hSG hL hLn
            go_wp2_with (first | (go_at_call 132; refine (zec b off cw ws smz toh top cyc sn old cpz sr ar cr rs w.heap.size wc.heap.size sv bl ws.length bs bc (.slice none 0 0) 0 (fun _ => false) S T _ hS (Nat.lt_of_lt_of_le hb hBc.size) hb (zh hb HC.out hBc).2 hn hw t0 t1 s0 s1 HSe.out HT.out hST hTn).mono ?_; rintro e w2 ⟨q, rfl, hq, hB2, hL2⟩; obtain rfl : q = true := hq.2 HG.out; obtain ⟨L', vp1, hLc, hLn', hS2⟩ := hL2 rfl; obtain rfl : L' = L := hLc.unique HL.out; clear hq hL2 hLc hLn'; have B2 := hBc.trans hB2; clear hB2) | (go_at_call 133; refine (zej b off cw ws smz toh top cyc sn old cpz sr ar cr rs w.heap.size wc.heap.size sv bl ws.length bs bc vp1 S T F L' _ hS2 (zh hb HC.out B2).1 hb (zh hb HC.out B2).2 hn hw t0 t1 s0 s1 HL2.out HSe.out HT.out HF.out hTn hTE'.out hST HL.out HLN.out).mono ?_; rintro e w3 ⟨q, rfl, hB3, hq1, hq2⟩; obtain rfl : q = true := zgb (fun g => hq2 g HO'.out); obtain ⟨O', vp2, hSG', hS3⟩ := hq1 rfl; obtain rfl : O' = O := (za1.same HSG.out.1 hSG'.1).2; clear hq1 hq2 hSG'; have B3 := B2.trans hB3; clear hB3; obtain ⟨av, cv, rfl⟩ := zdt hS3.own) | (go_at_call 134; refine (ze7 b off cw ws smz toh top cyc sn old cpz sr ar cr rs sv bl ws.length bs bc av cv (zm ws L' O') (L' ++ zl ws O') _ (S : Int) _ hS3.lsv hS3.cells hS3.lbl hS3.leads (zh hb HC.out B3).1 (zh hb HC.out B3).2 hn' hw hcw (zdm hS3.own) HPLN.out HLR.out t0 t1 s0 s1 HSe.out HIN.out).mono ?_; rw [HT.out]; rintro e w4 ⟨q, rfl, hq, b4⟩; obtain rfl : q = true := hq.2 HBD.out; clear hq; have B4 := zc B3 b4; have hS4 := hS3.below b4; clear b4) | (go_at_call 135; refine (zgo b off cw ws smz toh top cyc sn old cpz sr ar cr rs sv bl ws.length bs bc av cv (L' ++ zl ws O') _ _ hS4.lsv hS4.cells (zh hb HC.out B4).1 (zh hb HC.out B4).2 hn' hw (zdm hS4.own) HPLN.out HLT.out HTI.out).mono ?_; rintro e w5 ⟨q, rfl, hq, b5⟩; obtain rfl : q = true := hq.2 HTB.out; clear hq; have B5 := zc B4 b5; have hS5 := hS4.below b5; clear b5) | (go_at_call 136; refine (zka b off cw ws smz toh top cyc sn old cpz sr ar cr rs sv bl ws.length bs bc (.slice av (L' ++ zl ws O').length cv) (zm ws L' O') y w.heap.size (S : Int) _ hS5.lsv hS5.cells hS5.lbl hS5.leads (zh hb HC.out B5).1 (zh hb HC.out B5).2 hn' hw (HRT.out.below B5 (Nat.le_refl _)) hrl t0 t1 s0 s1 HSe.out HLR.out).mono ?_; rw [HT.out]; rintro e w6 ⟨q, rfl, hq, b6⟩; obtain rfl : q = false := zg2 hq HRB.out; clear hq; have B6 := zc B5 b6; have hS6 := hS5.below b6; clear b6))
            go_ret2
            exact ⟨false, sv, rfl, B6, fun g => by simp at g, fun _ => HBAD.out⟩
        · have HTB : Hid (¬ zbs ws (L ++ zl ws O) (L ++ zl ws O).length) := hTB
          have HBAD : Hid (¬ ∃ L O, zbq ws sr S T cyc F smz toh top old cpz sn L O /\ (zax ws (zm ws L O) (S : Int) (T : Int) cyc sn (L ++ zl ws O) (L ++ zl ws O).length /\ zbs ws (L ++ zl ws O) (L ++ zl ws O).length /\ zbl ws (zm ws L O) (S : Int) (T : Int) y rs.length)) := by
           rintro ⟨L', O', g1, g2, g3, g4⟩
           obtain ⟨rfl, rfl⟩ := huni2 L' O' g1
           exact hTB g3
          clear hBD hTB huni2 hlaid huni hSG hL hLn
          go_wp2_with (first | (go_at_call 132; refine (zec b off cw ws smz toh top cyc sn old cpz sr ar cr rs w.heap.size wc.heap.size sv bl ws.length bs bc (.slice none 0 0) 0 (fun _ => false) S T _ hS (Nat.lt_of_lt_of_le hb hBc.size) hb (zh hb HC.out hBc).2 hn hw t0 t1 s0 s1 HSe.out HT.out hST hTn).mono ?_; rintro e w2 ⟨q, rfl, hq, hB2, hL2⟩; obtain rfl : q = true := hq.2 HG.out; obtain ⟨L', vp1, hLc, hLn', hS2⟩ := hL2 rfl; obtain rfl : L' = L := hLc.unique HL.out; clear hq hL2 hLc hLn'; have B2 := hBc.trans hB2; clear hB2) | (go_at_call 133; refine (zej b off cw ws smz toh top cyc sn old cpz sr ar cr rs w.heap.size wc.heap.size sv bl ws.length bs bc vp1 S T F L' _ hS2 (zh hb HC.out B2).1 hb (zh hb HC.out B2).2 hn hw t0 t1 s0 s1 HL2.out HSe.out HT.out HF.out hTn hTE'.out hST HL.out HLN.out).mono ?_; rintro e w3 ⟨q, rfl, hB3, hq1, hq2⟩; obtain rfl : q = true := zgb (fun g => hq2 g HO'.out); obtain ⟨O', vp2, hSG', hS3⟩ := hq1 rfl; obtain rfl : O' = O := (za1.same HSG.out.1 hSG'.1).2; clear hq1 hq2 hSG'; have B3 := B2.trans hB3; clear hB3; obtain ⟨av, cv, rfl⟩ := zdt hS3.own) | (go_at_call 134; refine (ze7 b off cw ws smz toh top cyc sn old cpz sr ar cr rs sv bl ws.length bs bc av cv (zm ws L' O') (L' ++ zl ws O') _ (S : Int) _ hS3.lsv hS3.cells hS3.lbl hS3.leads (zh hb HC.out B3).1 (zh hb HC.out B3).2 hn' hw hcw (zdm hS3.own) HPLN.out HLR.out t0 t1 s0 s1 HSe.out HIN.out).mono ?_; rw [HT.out]; rintro e w4 ⟨q, rfl, hq, b4⟩; obtain rfl : q = true := hq.2 HBD.out; clear hq; have B4 := zc B3 b4; have hS4 := hS3.below b4; clear b4) | (go_at_call 135; refine (zgo b off cw ws smz toh top cyc sn old cpz sr ar cr rs sv bl ws.length bs bc av cv (L' ++ zl ws O') _ _ hS4.lsv hS4.cells (zh hb HC.out B4).1 (zh hb HC.out B4).2 hn' hw (zdm hS4.own) HPLN.out HLT.out HTI.out).mono ?_; rintro e w5 ⟨q, rfl, hq, b5⟩; obtain rfl : q = false := zg2 hq HTB.out; clear hq; have B5 := zc B4 b5; have hS5 := hS4.below b5; clear b5))
          go_ret2
          exact ⟨false, sv, rfl, B5, fun g => by simp at g, fun _ => HBAD.out⟩
      · have HBD : Hid (¬ zax ws (zm ws L O) (S : Int) (T : Int) cyc sn (L ++ zl ws O) (L ++ zl ws O).length) := hBD
        have HBAD : Hid (¬ ∃ L O, zbq ws sr S T cyc F smz toh top old cpz sn L O /\ (zax ws (zm ws L O) (S : Int) (T : Int) cyc sn (L ++ zl ws O) (L ++ zl ws O).length /\ zbs ws (L ++ zl ws O) (L ++ zl ws O).length /\ zbl ws (zm ws L O) (S : Int) (T : Int) y rs.length)) := by
         rintro ⟨L', O', g1, g2, g3, g4⟩
         obtain ⟨rfl, rfl⟩ := huni2 L' O' g1
         exact hBD g2
        clear hBD huni2 hlaid huni hSG hL hLn
        go_wp2_with (first | (go_at_call 132; refine (zec b off cw ws smz toh top cyc sn old cpz sr ar cr rs w.heap.size wc.heap.size sv bl ws.length bs bc (.slice none 0 0) 0 (fun _ => false) S T _ hS (Nat.lt_of_lt_of_le hb hBc.size) hb (zh hb HC.out hBc).2 hn hw t0 t1 s0 s1 HSe.out HT.out hST hTn).mono ?_; rintro e w2 ⟨q, rfl, hq, hB2, hL2⟩; obtain rfl : q = true := hq.2 HG.out; obtain ⟨L', vp1, hLc, hLn', hS2⟩ := hL2 rfl; obtain rfl : L' = L := hLc.unique HL.out; clear hq hL2 hLc hLn'; have B2 := hBc.trans hB2; clear hB2) | (go_at_call 133; refine (zej b off cw ws smz toh top cyc sn old cpz sr ar cr rs w.heap.size wc.heap.size sv bl ws.length bs bc vp1 S T F L' _ hS2 (zh hb HC.out B2).1 hb (zh hb HC.out B2).2 hn hw t0 t1 s0 s1 HL2.out HSe.out HT.out HF.out hTn hTE'.out hST HL.out HLN.out).mono ?_; rintro e w3 ⟨q, rfl, hB3, hq1, hq2⟩; obtain rfl : q = true := zgb (fun g => hq2 g HO'.out); obtain ⟨O', vp2, hSG', hS3⟩ := hq1 rfl; obtain rfl : O' = O := (za1.same HSG.out.1 hSG'.1).2; clear hq1 hq2 hSG'; have B3 := B2.trans hB3; clear hB3; obtain ⟨av, cv, rfl⟩ := zdt hS3.own) | (go_at_call 134; refine (ze7 b off cw ws smz toh top cyc sn old cpz sr ar cr rs sv bl ws.length bs bc av cv (zm ws L' O') (L' ++ zl ws O') _ (S : Int) _ hS3.lsv hS3.cells hS3.lbl hS3.leads (zh hb HC.out B3).1 (zh hb HC.out B3).2 hn' hw hcw (zdm hS3.own) HPLN.out HLR.out t0 t1 s0 s1 HSe.out HIN.out).mono ?_; rw [HT.out]; rintro e w4 ⟨q, rfl, hq, b4⟩; obtain rfl : q = false := zg2 hq HBD.out; clear hq; have B4 := zc B3 b4; have hS4 := hS3.below b4; clear b4))
        go_ret2
        exact ⟨false, sv, rfl, B4, fun g => by simp at g, fun _ => HBAD.out⟩
    · have HO : Hid (¬ ∃ O, zbq ws sr S T cyc F smz toh top old cpz sn L O) := hO
      have HBAD : Hid (¬ ∃ L O, zbq ws sr S T cyc F smz toh top old cpz sn L O /\ (zax ws (zm ws L O) (S : Int) (T : Int) cyc sn (L ++ zl ws O) (L ++ zl ws O).length /\ zbs ws (L ++ zl ws O) (L ++ zl ws O).length /\ zbl ws (zm ws L O) (S : Int) (T : Int) y rs.length)) := by
       rintro ⟨L', O', g1, _⟩
       obtain rfl := huni L' O' g1
       exact hO ⟨O', g1⟩
      clear hO huni hL hLn
      go_wp2_with (first | (go_at_call 132; refine (zec b off cw ws smz toh top cyc sn old cpz sr ar cr rs w.heap.size wc.heap.size sv bl ws.length bs bc (.slice none 0 0) 0 (fun _ => false) S T _ hS (Nat.lt_of_lt_of_le hb hBc.size) hb (zh hb HC.out hBc).2 hn hw t0 t1 s0 s1 HSe.out HT.out hST hTn).mono ?_; rintro e w2 ⟨q, rfl, hq, hB2, hL2⟩; obtain rfl : q = true := hq.2 HG.out; obtain ⟨L', vp1, hLc, hLn', hS2⟩ := hL2 rfl; obtain rfl : L' = L := hLc.unique HL.out; clear hq hL2 hLc hLn'; have B2 := hBc.trans hB2; clear hB2) | (go_at_call 133; refine (zej b off cw ws smz toh top cyc sn old cpz sr ar cr rs w.heap.size wc.heap.size sv bl ws.length bs bc vp1 S T F L' _ hS2 (zh hb HC.out B2).1 hb (zh hb HC.out B2).2 hn hw t0 t1 s0 s1 HL2.out HSe.out HT.out HF.out hTn hTE'.out hST HL.out HLN.out).mono ?_; rintro e w3 ⟨q, rfl, hB3, hq1, hq2⟩; obtain rfl : q = false := zqf (fun g => HO.out (zsu (hq1 g))); clear hq1 hq2; have B3 := B2.trans hB3; clear hB3))
      go_ret2
      exact ⟨false, sv, rfl, B3, fun g => by simp at g, fun _ => HBAD.out⟩
  · have HG : Hid (¬ zdg ws sr S T) := hG
    have HBAD : Hid (¬ ∃ L O, zbq ws sr S T cyc F smz toh top old cpz sn L O /\ (zax ws (zm ws L O) (S : Int) (T : Int) cyc sn (L ++ zl ws O) (L ++ zl ws O).length /\ zbs ws (L ++ zl ws O) (L ++ zl ws O).length /\ zbl ws (zm ws L O) (S : Int) (T : Int) y rs.length)) := by
     rintro ⟨L', O', g1, _⟩
     refine hG ⟨L', g1.1.use, ?_⟩
     have := g1.2.1
     rw [zeu] at this
     exact (List.nodup_append.1 this).1
    clear hG
    go_wp2_with (first | (go_at_call 132; refine (zec b off cw ws smz toh top cyc sn old cpz sr ar cr rs w.heap.size wc.heap.size sv bl ws.length bs bc (.slice none 0 0) 0 (fun _ => false) S T _ hS (Nat.lt_of_lt_of_le hb hBc.size) hb (zh hb HC.out hBc).2 hn hw t0 t1 s0 s1 HSe.out HT.out hST hTn).mono ?_; rintro e w2 ⟨q, rfl, hq, hB2, hL2⟩; obtain rfl : q = false := zg2 hq HG.out; clear hq hL2; have B2 := hBc.trans hB2; clear hB2))
    go_ret2
    exact ⟨false, sv, rfl, B2, fun g => by simp at g, fun _ => HBAD.out⟩
open Go.RowKit
def zdc (ws : List Int) (smz toh top : Int) (cyc : Bool) (sn old cpz sr : Int) (y : Nat -> Int) (rl : Nat) : Prop :=
 zcy ws.length smz toh top cyc sn old cpz sr rl = true /\ zc2 ws smz toh top cyc sn old cpz sr y rl
theorem zd7 {smz toh top : Int} {wl : Nat} (s0 : 256 <= smz) (s1 : smz <= 4000) (hl : (wl : Int) = 2 * smz) (t0 : 0 <= toh) (t1 : toh <= 1) (h1 : toh * smz + 1 <= top) (h2 : top <= (toh + 1) * smz) :
 0 <= toh * smz /\ 0 <= (1 - toh) * smz /\ 0 <= top /\ top <= wl /\ ∀ old : Int, (1 - toh) * smz + 1 <= old -> old <= (2 - toh) * smz -> old <= wl /\ (top <= (1 - toh) * smz + 1 \/ old <= toh * smz + 1) := by
 have hc : toh = 0 \/ toh = 1 := by omega
 rcases hc with rfl | rfl
 · exact ⟨by omega, by omega, by omega, by omega, fun old a b => by omega⟩
 · exact ⟨by omega, by omega, by omega, by omega, fun old a b => by omega⟩
theorem zie {aw : Option Addr} {cw : Nat} {ws : List Int} {w : World} (hs : Sl w (.slice aw ws.length cw) ws) (h : 0 < ws.length) :
 ∃ b off, aw = some ⟨b, off, none⟩ /\ b < w.heap.size /\ ∀ i, i < ws.length -> w.cell? ⟨b, off + i, none⟩ = some (.int .u64 (za ws i)) := by
 obtain ⟨a', c', he, hs⟩ := hs
 simp only [Value.slice.injEq] at he
 obtain ⟨rfl, _, rfl⟩ := he
 rcases hs with g | ⟨b, off, rfl, hb, hc⟩
 · have : ws.length = 0 := by first | exact g | simp [g]
   omega
 · exact ⟨b, off, rfl, hb, hc⟩
theorem zgt (aw : Option Addr) (cw : Nat) (ws : List Int) (smz toh top : Int) (cyc : Bool) (sn old cpz sr : Int) (ar : Option Addr) (cr : Nat) (rs : List (Int × Int)) (y : Nat -> Int) (Tr : Nat) (w : World) (hs : Sl w (.slice aw ws.length cw) ws) (hn : ws.length <= 1048576) (hw : zg ws) (hrt : SlF Tr w (.slice ar rs.length cr) rs.length (2 * rs.length) (fun i => .int .i64 (y i))) (hn2 : rs.length <= 1048576) :
 Calls Tryz.prog 41 #[.agg #[.slice aw ws.length cw, .int .i64 smz, .int .i64 toh, .int .i64 top, .bool cyc, .int .i64 sn, .int .i64 old, .int .i64 cpz, .int .i64 sr, .slice ar rs.length cr]] w fun e w' => ∃ q, e = .returned (.bool q) /\ (q = true ↔ zdc ws smz toh top cyc sn old cpz sr y rs.length) /\ Below w.heap.size w w' := by
 cases hnum : zcy ws.length smz toh top cyc sn old cpz sr rs.length with
 | false =>
   refine (zkb aw cw ws smz toh top cyc sn old cpz sr ar cr rs w hn hn2 hnum).mono ?_
   rintro e w' ⟨rfl, hB⟩
   exact ⟨false, rfl, ⟨fun g => by simp at g, fun g => by have := g.1; rw [hnum] at this; simp at this⟩, hB⟩
 | true =>
   obtain ⟨s0, s1, hl, t0, t1, hrl, h1, h2, hold⟩ := zdi hnum
   obtain ⟨b, off, rfl, hb, hc⟩ := zie hs (by omega)
   obtain ⟨g1, g2, g3, g4, g5⟩ := zd7 s0 s1 hl t0 t1 h1 h2
   refine (zjk b off cw ws smz toh top cyc sn old cpz sr ar cr rs y Tr w (toh * smz + 1).toNat top.toNat ((1 - toh) * smz + 1).toNat hb hc hn hw hrt hnum (by omega) (by omega) (by omega) s0 s1 t0 t1 (by omega) (by omega) (fun hcy => ?_) hrl).mono ?_
   · obtain ⟨a, b⟩ := hold hcy
     have := g5 old a b
     omega
   · rintro e w' ⟨q, rfl, hq, hB⟩
     exact ⟨q, rfl, hq.trans ⟨fun g => ⟨hnum, g⟩, fun g => g.2⟩, hB⟩
theorem zst {ws : List Int} {smz toh top : Int} {cyc : Bool} {sn old cpz sr : Int} {y : Nat -> Int} {rl S T F : Nat} (hw : zg ws) (hm : mOk ws.length smz toh top sr rl = true) (hS : toh * smz + 1 = S) (hT : top = T) (hF : (1 - toh) * smz + 1 = F) :
 (∃ L O, zbq ws sr S T cyc F smz toh top old cpz sn L O /\ (zax ws (zm ws L O) (S : Int) (T : Int) cyc sn (L ++ zl ws O) (L ++ zl ws O).length /\ zbs ws (L ++ zl ws O) (L ++ zl ws O).length /\ zbl ws (zm ws L O) (S : Int) (T : Int) y rl)) ↔ zdc ws smz toh top cyc sn old cpz sr y rl := by
 have hm' := hm
 simp only [mOk, ze1, zdz, inB, Bool.and_eq_true, decide_eq_true_eq] at hm'
 obtain ⟨⟨s0, s1, hl, t0, t1, _, _, hrl⟩, h1, h2⟩ := hm'
 obtain ⟨g1, g2, g3, g4, g5⟩ := zd7 s0 s1 hl t0 t1 h1 h2
 have eS : (toh * smz + 1).toNat = S := by omega
 have eT : top.toNat = T := by omega
 have eF : ((1 - toh) * smz + 1).toNat = F := by omega
 have hlaid : ∀ {L O}, za1 ws sr S T cyc F old cpz sn L O -> (cyc = true -> zfj smz toh top old cpz = true) -> zar ws sr S T cyc F old cpz sn L O := fun {L O} ht h3 => by
  refine ⟨ht, fun hc => ?_, by omega, by omega, by omega, fun hc => ?_⟩
  · have h3 := of_decide_eq_true (h3 hc)
    unfold zci at h3
    have := g5 old h3.1 h3.2.1
    omega
  · have h3 := of_decide_eq_true (h3 hc)
    unfold zci at h3
    exact (g5 old h3.1 h3.2.1).1
 have hnum : zcy ws.length smz toh top cyc sn old cpz sr rl = true ↔ (cyc = false -> zgm sn old cpz = true) /\ (cyc = true -> zfj smz toh top old cpz = true) := by
  have : (ze1 ws.length smz toh sr rl && zdz smz toh top) = true := hm
  unfold zcy
  rw [this, Bool.true_and]
  cases cyc <;> simp
 unfold zdc zc2
 rw [eS, eT, eF, hnum]
 constructor
 · rintro ⟨L, O, ⟨ht, hser, h4, h3⟩, hall⟩
   have hl := hlaid ht h3
   exact ⟨⟨h4, h3⟩, L, O, ht, hl.serials.1 hser, (hl.whole hw hser y rl).1 hall⟩
 · rintro ⟨⟨h4, h3⟩, L, O, ht, hser, hall⟩
   have hl := hlaid ht h3
   have hser' := hl.serials.2 hser
   exact ⟨L, O, ⟨ht, hser', h4, h3⟩, (hl.whole hw hser' y rl).2 hall⟩
theorem zgu (aw : Option Addr) (cw : Nat) (ws : List Int) (smz toh top : Int) (cyc : Bool) (sn old cpz sr : Int) (ar : Option Addr) (cr : Nat) (rs : List (Int × Int)) (y : Nat -> Int) (Tr : Nat) (w : World) (hs : Sl w (.slice aw ws.length cw) ws) (hcw : ws.length <= cw) (hn : ws.length <= 1048576) (hw : zg ws) (hrt : SlF Tr w (.slice ar rs.length cr) rs.length (2 * rs.length) (fun i => .int .i64 (y i))) (hn2 : rs.length <= 1048576) :
 Calls Tryz.prog 49 #[.agg #[.slice aw ws.length cw, .int .i64 smz, .int .i64 toh, .int .i64 top, .bool cyc, .int .i64 sn, .int .i64 old, .int .i64 cpz, .int .i64 sr, .slice ar rs.length cr]] w fun e w' => ∃ q, e = .returned (.bool q) /\ (q = true ↔ zdc ws smz toh top cyc sn old cpz sr y rs.length) /\ Below w.heap.size w w' := by
 cases hm : mOk ws.length smz toh top sr rs.length with
 | false =>
   have HBAD : Hid (¬ zdc ws smz toh top cyc sn old cpz sr y rs.length) := fun g => by
    have := g.1
    unfold zcy at this
    have h2 : (ze1 ws.length smz toh sr rs.length && zdz smz toh top) = false := hm
    rw [h2] at this
    simp at this
   have HSV := fun w => zoi aw cw ws smz toh top cyc sn old cpz sr ar cr rs w hn hn2 hm
   clear hrt hs
   go_enter Tryz.func49, Tryz.ntmps49
   go_wp2_with (go_at_call 101; refine (HSV _).mono ?_; rintro e w1 ⟨rfl, b1⟩)
   go_ret
   exact ⟨false, rfl, ⟨fun g => by simp at g, fun g => absurd g HBAD.out⟩, zd b1⟩
 | true =>
   have hm' := hm
   simp only [mOk, ze1, zdz, inB, Bool.and_eq_true, decide_eq_true_eq] at hm'
   obtain ⟨⟨s0, s1, hl, t0, t1, _, _, hrl⟩, h1, h2⟩ := hm'
   obtain ⟨g1, g2, g3, g4, g5⟩ := zd7 s0 s1 hl t0 t1 h1 h2
   obtain ⟨b, off, rfl, hb, hc⟩ := zie hs (by omega)
   have hgood := zst (ws := ws) (smz := smz) (toh := toh) (top := top) (cyc := cyc) (sn := sn) (old := old) (cpz := cpz) (sr := sr) (y := y) (rl := rs.length) (S := (toh * smz + 1).toNat) (T := top.toNat) (F := ((1 - toh) * smz + 1).toNat) hw hm (by omega) (by omega) (by omega)
   have HGD : Hid _ := hgood
   have HSV : Hid (∀ W, Below w.heap.size w W -> _) := fun W (hW : Below w.heap.size w W) =>
    zoj b off cw ws smz toh top cyc sn old cpz sr ar cr rs y w.heap.size (toh * smz + 1).toNat top.toNat ((1 - toh) * smz + 1).toNat W (zh hb hc hW).1 (zh hb hc hW).2 hw hcw (hrt.here.below hW (Nat.le_refl _)) hm hrl s0 s1 hl t0 t1 (by omega) (by omega) (by omega) (by omega) h2
   clear hgood hrt hs hc g1 g2 g3 g4 g5 h1 h2
   go_enter Tryz.func49, Tryz.ntmps49
   go_wp2_with (go_at_call 101; refine (HSV.out _ ((Below.refl _ _).alloc (Nat.le_refl _) _)).mono ?_; rintro e w1 ⟨q, sv, rfl, b1, hq1, hq2⟩)
   go_ret
   refine ⟨q, rfl, ?_, zd b1⟩
   rw [<- HGD.out]
   constructor
   · intro g
     obtain ⟨L, O, _, _, _, _, _, _, a, b, _⟩ := hq1 g
     exact ⟨L, O, a, b⟩
   · intro g
     cases q with
     | true => rfl
     | false => exact absurd g (hq2 rfl)
end Go.Proofs.YtmckcnmlhgpnhaaGreat
