/- - -/
import Derived.Test.YtmckcnmlhgpnhaaGreatWOkA
namespace Go.Proofs.YtmckcnmlhgpnhaaGreat
set_option maxRecDepth 20000
open Go.RowKit
set_option linter.unusedSimpArgs false
set_option linter.unusedVariables false
theorem ze6 {w w1 w2 : World} (h : Below w.heap.size w w1) (k : Below w.heap.size w1 w2) : Below w.heap.size w w2 := h.trans k
theorem zkb (aw : Option Addr) (cw : Nat) (ws : List Int) (smz toh top : Int) (cyc : Bool) (sn old cpz sr : Int) (ar : Option Addr) (cr : Nat) (rs : List (Int × Int)) (w : World) (hn : ws.length <= 1048576) (hn2 : rs.length <= 1048576) (h : zcy ws.length smz toh top cyc sn old cpz sr rs.length = false) :
 Calls Tryz.prog 41 #[.agg #[.slice aw ws.length cw, .int .i64 smz, .int .i64 toh, .int .i64 top, .bool cyc, .int .i64 sn, .int .i64 old, .int .i64 cpz, .int .i64 sr, .slice ar rs.length cr]] w fun e w' => e = .returned (.bool false) /\ Below w.heap.size w w' := by
 go_enter Tryz.func41, Tryz.ntmps41
 go_wp2_with fail
 refine (zhm aw cw ws smz toh top cyc sn old cpz sr ar cr rs _ hn hn2).mono ?_
 rw [h]
 rintro e w1 ⟨rfl, b1⟩
 have B1 := zd b1
 clear b1
 go_wp2
 go_ret
 exact ⟨rfl, B1⟩
set_option maxHeartbeats 4000000 in
theorem zjk (b off cw : Nat) (ws : List Int) (smz toh top : Int) (cyc : Bool) (sn old cpz sr : Int) (ar : Option Addr) (cr : Nat) (rs : List (Int × Int)) (y : Nat -> Int) (Tr : Nat) (w : World) (S T F : Nat) (hb : b < w.heap.size) (hc : ∀ i, i < ws.length -> w.cell? ⟨b, off + i, none⟩ = some (.int .u64 (za ws i))) (hn : ws.length <= 1048576) (hw : zg ws) (hrt : SlF Tr w (.slice ar rs.length cr) rs.length (2 * rs.length) (fun i => .int .i64 (y i))) (hnum : zcy ws.length smz toh top cyc sn old cpz sr rs.length = true)
 (hS : toh * smz + 1 = S) (hT : top = T) (hF : (1 - toh) * smz + 1 = F) (s0 : 256 <= smz) (s1 : smz <= 4000) (t0 : 0 <= toh) (t1 : toh <= 1) (hST : S <= T) (hTn : T <= ws.length) (hold : cyc = true -> (F : Int) <= old /\ old <= ws.length /\ (T <= F \/ old <= S)) (hrl : rs.length <= 24) :
 Calls Tryz.prog 41 #[(.agg #[.slice (some ⟨b, off, none⟩) ws.length cw, .int .i64 smz, .int .i64 toh, .int .i64 top, .bool cyc, .int .i64 sn, .int .i64 old, .int .i64 cpz, .int .i64 sr, .slice ar rs.length cr])] w fun e w' => ∃ q, e = .returned (.bool q) /\ (q = true ↔ zc2 ws smz toh top cyc sn old cpz sr y rs.length) /\ Below w.heap.size w w' := by
 have hmk := fun (w : World) => run_make_row' (P := Tryz.prog) 64 3 (.int .i64 0) 8 Tryz.underlying64 zrm rfl .i64 .i64 ws.length (by omega) (by omega) w
 have hmb := fun (w : World) => run_make_row' (P := Tryz.prog) 75 4 (.bool false) 1 Tryz.underlying75 zqm rfl .i64 .i64 ws.length (by omega) (by omega) w
 have hn' : (ws.length : Int) <= 1048576 := by omega
 have HG : Hid (zc2 ws smz toh top cyc sn old cpz sr y rs.length ↔ ∃ L O, za1 ws sr S T cyc F old cpz sn L O /\ (zap (mk2 ws L O) ws ws.length).Nodup /\ zbt (mk2 ws L O) ws cyc sn ws.length /\ zcm (mk2 ws L O) ws ws.length /\ zb9 (mk2 ws L O) ws y rs.length) := by
  show zc2 ws smz toh top cyc sn old cpz sr y rs.length ↔ _
  unfold zc2
  rw [hS, hT, hF]
  simp only [Int.toNat_natCast]
 have HS : Hid (toh * smz + 1 = (S : Int)) := hS
 have HT : Hid (top = (T : Int)) := hT
 have HF : Hid ((1 - toh) * smz + 1 = (F : Int)) := hF
 have HO : Hid (cyc = true -> (F : Int) <= old /\ old <= ws.length /\ (T <= F \/ old <= S)) := hold
 have HNUM : Hid (zcy ws.length smz toh top cyc sn old cpz sr rs.length = true) := hnum
 clear hS hT hF hold hnum
 go_enter Tryz.func41, Tryz.ntmps41
 go_wp2_with fail
 refine (zhm _ _ _ _ _ _ _ _ _ _ _ _ _ _ _ hn (by omega)).mono ?_
 rw [HNUM.out]
 rintro e w1 ⟨rfl, b1⟩
 have KA := zp b1 (by simp)
 have z1 := zq b1
 have B1 := zd b1
 obtain ⟨lb1, C1⟩ := zh hb hc B1
 clear b1
 go_wp2_with fail
 refine (zsz b off cw ws smz toh top cyc sn old cpz sr ar cr rs w1.heap.size ws.length _ hn hw (zc6 lb1) (by omega) (fun i hi => zx lb1 (C1 i hi)) (World.rowIs_made w1 (.int .i64 0) ws.length 3) s0 s1 t0 t1 S T F HS.out HT.out hST hTn HF.out HO.out).mono ?_
 rintro e w2 ⟨q, rfl, hq, a2⟩
 have A2 : Below w1.heap.size w1 w2 := ((zaf ((Below.refl w1.heap.size w1).alloc (Nat.le_refl _) _) (Nat.le_refl _) w1.heap.size (w1.heap.size + 1)).trans a2).below (Nat.le_refl _) (Nat.le_refl _)
 have KA2 := ze KA A2 z1
 have B2 := zc B1 A2
 clear a2
 rcases hq with ⟨rfl, L, O, til, row⟩ | ⟨rfl, hno⟩
 · have hO2 : cyc = true -> old <= ws.length := fun h => (HO.out h).2.1
   have hd2 : cyc = true -> T <= F \/ old.toNat <= S := fun h => by have := (HO.out h).2.2; omega
   obtain ⟨mk, hmke⟩ : ∃ mk, mk = mk2 ws L O := ⟨_, rfl⟩
   have HM : Hid (zha mk ws) := by show zha mk ws; rw [hmke]; exact til.marks hTn
   have HOB : Hid (∀ i, zbf mk i -> zai (za ws i) = true /\ i + (rdS (za ws i)).toNat < ws.length) := by
    show ∀ i, zbf mk i -> _
    rw [hmke]
    exact fun i hi => ⟨(til.object hi).1, til.within hTn hO2 hi⟩
   have HKN : Hid (zbt mk ws cyc sn ws.length -> zbm mk ws cyc sn) := by
    show zbt mk ws cyc sn ws.length -> zbm mk ws cyc sn
    rw [hmke]
    exact fun ho => til.known hTn hO2 hd2 ho
   have HGD : Hid (zc2 ws smz toh top cyc sn old cpz sr y rs.length ↔ (zap mk ws ws.length).Nodup /\ zbt mk ws cyc sn ws.length /\ zcm mk ws ws.length /\ zb9 mk ws y rs.length) := by
    show zc2 ws smz toh top cyc sn old cpz sr y rs.length ↔ _
    rw [HG.out, hmke]
    constructor
    · rintro ⟨L', O', t', r'⟩
      obtain ⟨rfl, rfl⟩ := til.same t'
      exact r'
    · exact fun r' => ⟨L, O, til, r'⟩
   rw [<- hmke] at row
   have lbm : w1.heap.size < w2.heap.size := row.lt
   have MC2 : ∀ i, i < ws.length -> w2.cell? ⟨w1.heap.size, 0 + i, none⟩ = some (.int .i64 (mk i)) := fun i hi => by rw [Nat.zero_add]; exact row.cell hi
   obtain ⟨lb2, C2⟩ := zh lb1 C1 A2
   have S2 : Sl w2 (.slice (some ⟨b, off, none⟩) ws.length cw) ws := ⟨_, _, rfl, .inr ⟨b, off, rfl, lb2, C2⟩⟩
   have RT2 : SlF Tr w2 (.slice ar rs.length cr) rs.length (2 * rs.length) (fun i => .int .i64 (y i)) \/ True := .inr trivial
   clear RT2
   clear til hmke HG HS HT HF HO hO2 hd2 KA C1 lb1
   generalize w1.heap.size = bm at *
   go_wp2_with fail
   refine (zm3 _ _ _ _ _ _ _ _ _ _ _ _ _ _ 0 bm 0 ws.length mk _ S2 hn hw lbm MC2).mono ?_
   rintro e w3 ⟨q, rfl, hq, b3⟩
   have HQ3 : Hid (q = true ↔ (zap mk ws ws.length).Nodup) := hq
   have KA3 := ze KA2 b3 (by omega)
   have l3 : w.heap.size < w3.heap.size := by have := b3.size; omega
   have lbm3 : bm < w3.heap.size := Nat.lt_of_lt_of_le lbm b3.size
   have M3 : ∀ i, i < ws.length -> w3.cell? ⟨bm, i, none⟩ = some (.int .i64 (mk i)) := fun i hi => by rw [b3.cell (p := ⟨bm, i, none⟩) lbm]; exact row.cell hi
   obtain ⟨lb3, C3⟩ := zh lb2 C2 b3
   have S3 := S2.below b3
   have B3 := zc B2 b3
   clear hq KA2 b3 row MC2 lb2 C2 S2 A2
   cases q with
   | false =>
     go_wp2
     go_ret
     exact ⟨false, rfl, ⟨fun g => by simp at g, fun g => absurd (HQ3.out.2 (HGD.out.1 g).1) (by simp)⟩, B3⟩
   | true =>
     have HN3 : Hid ((zap mk ws ws.length).Nodup) := HQ3.out.1 rfl
     clear HQ3
     have HM3 : Hid (∀ i, i < ws.length -> w3.cell? ⟨bm, i, none⟩ = some (.int .i64 (mk i))) := M3
     have HC3 : Hid (∀ i, i < ws.length -> w3.cell? ⟨b, off + i, none⟩ = some (.int .u64 (za ws i))) := C3
     clear M3 C3 hc
     go_wp2
     go_loopw [4] (fun u4 wr => ∃ k : Nat, k <= ws.length /\ u4 = .int .i64 k /\ zbt mk ws cyc sn k /\ Below w3.heap.size w3 wr) (fun u4 _ => ws.length - (intOf u4).toNat)
     case atStart => exact ⟨0, Nat.zero_le _, rfl, fun p hp => absurd hp (by omega), Below.refl _ _⟩
     case round =>
      obtain ⟨k, hk, rfl, hob, hB⟩ := hrel
      have HOK : Hid (zbt mk ws cyc sn k) := hob
      clear hob
      have KAr := ze KA3 hB l3
      have lwr := hB.size
      by_cases hlt : k < ws.length
      · have hlt' : (k : Int) < (ws.length : Int) := by omega
        have mkc : wr.cell? ⟨bm, k, none⟩ = some (.int .i64 (mk k)) := by rw [hB.cell (p := ⟨bm, k, none⟩) lbm3]; exact HM3.out k hlt
        have HMr : Hid (∀ i, i < ws.length -> wr.cell? ⟨bm, 0 + i, none⟩ = some (.int .i64 (mk i))) := fun i hi => by rw [Nat.zero_add, hB.cell (p := ⟨bm, i, none⟩) lbm3]; exact HM3.out i hi
        have lbr : bm < wr.heap.size := Nat.lt_of_lt_of_le lbm3 hB.size
        have SR := S3.below hB
        have hBr := zc B3 hB
        by_cases h12 : zbf mk k
        · have HI : Hid (zbf mk k) := h12
          obtain ⟨hrd, hin⟩ := HOB.out k h12
          have HE1 : Hid (zfn mk ws (zck mk cyc sn k) k -> zbt mk ws cyc sn (k + 1)) := fun g => zk6 HOK.out (fun _ => g)
          by_cases hO : zfn mk ws (zck mk cyc sn k) k
          · have HNX : Hid (zbt mk ws cyc sn (k + 1)) := HE1.out hO
            have HOO : Hid (zfn mk ws (zck mk cyc sn k) k) := hO
            clear hO
            rcases h12 with h1 | h1
            · have e1 : (mk k == 1) = true := by simpa using h1
              clear h1
              go_wp2_with (go_at_call 93; refine (zek _ _ _ _ _ _ _ _ _ _ _ _ _ _ bm 0 _ mk _ k _ rfl hn hw SR lbr HMr.out HM.out hrd hin _ rfl).mono ?_; rintro e w4 ⟨q, rfl, hq, b4⟩; obtain rfl : q = true := hq.2 HOO.out; clear hq)
              first
               | (refine ⟨⟨k + 1, hlt, by go_num, HNX.out, zc hB b4⟩, by simp [intOf]; omega⟩)
               | (go_roundw
                  case rel => exact ⟨k + 1, hlt, by go_num, HNX.out, zc hB b4⟩
                  case measure => simp [intOf]; omega)
            · have e1 : (mk k == 1) = false := by rw [h1]; rfl
              have e2 : (mk k == 2) = true := by simpa using h1
              clear h1
              go_wp2_with (go_at_call 93; refine (zek _ _ _ _ _ _ _ _ _ _ _ _ _ _ bm 0 _ mk _ k _ rfl hn hw SR lbr HMr.out HM.out hrd hin _ rfl).mono ?_; rintro e w4 ⟨q, rfl, hq, b4⟩; obtain rfl : q = true := hq.2 HOO.out; clear hq)
              first
               | (refine ⟨⟨k + 1, hlt, by go_num, HNX.out, zc hB b4⟩, by simp [intOf]; omega⟩)
               | (go_roundw
                  case rel => exact ⟨k + 1, hlt, by go_num, HNX.out, zc hB b4⟩
                  case measure => simp [intOf]; omega)
          · have HOO : Hid (¬ zfn mk ws (zck mk cyc sn k) k) := hO
            clear hO
            rcases h12 with h1 | h1
            · have e1 : (mk k == 1) = true := by simpa using h1
              clear h1
              go_wp2_with (go_at_call 93; refine (zek _ _ _ _ _ _ _ _ _ _ _ _ _ _ bm 0 _ mk _ k _ rfl hn hw SR lbr HMr.out HM.out hrd hin _ rfl).mono ?_; rintro e w4 ⟨q, rfl, hq, b4⟩; obtain rfl : q = false := by cases q with | false => rfl | true => exact absurd (hq.1 rfl) HOO.out)
              go_ret
              exact ⟨false, rfl, ⟨fun g => by simp at g, fun g => absurd ((HGD.out.1 g).2.1 k hlt HI.out) HOO.out⟩, zc hBr b4⟩
            · have e1 : (mk k == 1) = false := by rw [h1]; rfl
              have e2 : (mk k == 2) = true := by simpa using h1
              clear h1
              go_wp2_with (go_at_call 93; refine (zek _ _ _ _ _ _ _ _ _ _ _ _ _ _ bm 0 _ mk _ k _ rfl hn hw SR lbr HMr.out HM.out hrd hin _ rfl).mono ?_; rintro e w4 ⟨q, rfl, hq, b4⟩; obtain rfl : q = false := by cases q with | false => rfl | true => exact absurd (hq.1 rfl) HOO.out)
              go_ret
              exact ⟨false, rfl, ⟨fun g => by simp at g, fun g => absurd ((HGD.out.1 g).2.1 k hlt HI.out) HOO.out⟩, zc hBr b4⟩
        · have e1 : (mk k == 1) = false := by simp; exact fun g => h12 (.inl g)
          have e2 : (mk k == 2) = false := by simp; exact fun g => h12 (.inr g)
          have HNX : Hid (zbt mk ws cyc sn (k + 1)) := zk6 HOK.out (fun g => absurd g h12)
          clear h12
          go_wp2
          first
           | (refine ⟨⟨k + 1, hlt, by go_num, HNX.out, hB⟩, by simp [intOf]; omega⟩)
           | (go_roundw
              case rel => exact ⟨k + 1, hlt, by go_num, HNX.out, hB⟩
              case measure => simp [intOf]; omega)
      · have hkl : k = ws.length := by omega
        have HOL : Hid (zbt mk ws cyc sn ws.length) := by show zbt mk ws cyc sn ws.length; rw [<- hkl]; exact HOK.out
        have HKW : Hid (zbm mk ws cyc sn) := HKN.out HOL.out
        have hge : (ws.length : Int) <= (k : Int) := by omega
        obtain ⟨w4, hw4⟩ : ∃ w4, w4 = wr.alloc (.cells (madeCells #[.bool false] ws.length) 4) := ⟨_, rfl⟩
        have R4 : w4.rowIs wr.heap.size 4 ws.length (fun i => .bool (zbb mk ws 0 i)) := by rw [hw4]; exact (World.rowIs_made wr (.bool false) ws.length 4).congr fun i _ => rfl
        have hB4 : Below w3.heap.size w3 w4 := by rw [hw4]; exact hB.alloc lwr _
        have KA4 := ze KA3 hB4 l3
        have hlb : bm < wr.heap.size := by omega
        have hbw : b < wr.heap.size := by omega
        have hww : w.heap.size < wr.heap.size := by omega
        have l4 : wr.heap.size < w4.heap.size := R4.lt
        have HM4 : Hid (∀ i, i < ws.length -> w4.cell? ⟨bm, i, none⟩ = some (.int .i64 (mk i))) := fun i hi => by rw [hB4.cell (p := ⟨bm, i, none⟩) lbm3]; exact HM3.out i hi
        have HC4 : Hid (∀ i, i < ws.length -> w4.cell? ⟨b, off + i, none⟩ = some (.int .u64 (za ws i))) := (zh lb3 HC3.out hB4).2
        have B4 := zc B3 hB4
        clear KA3 lwr hB hB4 S3 lbm3 lb3 HM3 HC3 HOK l3 HOL HKN hkl HOB
        have hfk := zdp
        go_upto_region 12 with fail
        rw [<- hw4]
        clear hw4 KAr
        generalize wr.heap.size = bl at *
        go_wp2
        go_loopw [6] (fun u6 wr => ∃ k : Nat, k <= ws.length /\ u6 = .int .i64 k /\ zcm mk ws k /\ wr.rowIs bl 4 ws.length (fun i => .bool (zbb mk ws k i)) /\ zz bl (bl + 1) w4 wr) (fun u6 _ => ws.length - (intOf u6).toNat)
        case atStart => exact ⟨0, Nat.zero_le _, rfl, fun p hp => absurd hp (by omega), R4, zz.refl _ _ _⟩
        case round =>
         obtain ⟨j, hj, rfl, htb, hR, hA⟩ := hrel
         have HTK : Hid (zcm mk ws j) := htb
         clear htb R4
         have KAq := zla KA4 hA (by omega) (by omega)
         have lwq := hA.size
         have hCq : Hid (∀ i, i < ws.length -> wr.cell? ⟨b, off + i, none⟩ = some (.int .u64 (za ws i))) := fun i hi => by rw [World.cell?_of_block (w := w4) (hA.block b (by omega) (by omega))]; exact HC4.out i hi
         have hMq : Hid (∀ i, i < ws.length -> wr.cell? ⟨bm, i, none⟩ = some (.int .i64 (mk i))) := fun i hi => by rw [World.cell?_of_block (w := w4) (hA.block bm (by omega) (by omega))]; exact HM4.out i hi
         have lbq : b < wr.heap.size := by omega
         have hBq : Below w.heap.size w wr := ze6 B4 (hA.below (C := w.heap.size) (by omega) (by omega))
         by_cases hlt2 : j < ws.length
         · have hlt' : (j : Int) < (ws.length : Int) := by omega
           have mkc : wr.cell? ⟨bm, j, none⟩ = some (.int .i64 (mk j)) := hMq.out j hlt2
           have SQ : Sl wr (.slice (some ⟨b, off, none⟩) ws.length cw) ws := ⟨_, _, rfl, .inr ⟨b, off, rfl, lbq, hCq.out⟩⟩
           have lq0 : w.heap.size < wr.heap.size := by omega
           have lbq5 : ∀ {w5 : World}, Below wr.heap.size wr w5 -> b < w5.heap.size := fun h => Nat.lt_of_lt_of_le lbq h.size
           have C5 : ∀ {w5 : World}, Below wr.heap.size wr w5 -> ∀ i, i < ws.length -> w5.cell? ⟨b, off + i, none⟩ = some (.int .u64 (za ws i)) := fun h => (zh lbq hCq.out h).2
           by_cases h12 : zbf mk j
           · have HI : Hid (zbf mk j) := h12
             rcases h12 with h1 | h1
             · have e1 : (mk j == 1) = true := by simpa using h1
               clear h1
               by_cases hk2 : rdK (za ws j) = 2
               · have ek : (rdK (za ws j) == 2) = true := by simpa using hk2
                 have hit : zbu mk ws j = true := by simp [zbu, hk2]; exact HI.out
                 have hTI := HKW.out.tab hw hit
                 have HTI : Hid (zj0 ws j) := hTI
                 have hln : ∀ i, zdx ws (zbb mk ws j) j i = zbb mk ws (j + 1) i := fun i => by simp [zbb, hit]
                 have HLN : Hid (∀ i, zdx ws (zbb mk ws j) j i = zbb mk ws (j + 1) i) := hln
                 have HIT : Hid (zbu mk ws j = true) := hit
                 clear hk2 hit hTI hln
                 by_cases hG : zd9 ws (zbb mk ws j) j
                 · have HNX : Hid (zcm mk ws (j + 1)) := zfc HTK.out (fun _ => hG)
                   have HGG : Hid (zd9 ws (zbb mk ws j) j) := hG
                   clear hG
                   go_wp2_with (first | (go_at_call 43; refine (zbr _ _ _ _ _ _ _ _ _ _ _ _ _ _ _ j _ rfl SQ hn hw hlt2).mono ?_; rintro e w5 ⟨rfl, b5⟩; have KA5 := ze KAq b5 lq0) | (go_at_call 94; refine (zfo _ _ _ _ _ _ _ _ _ _ _ _ _ _ _ _ bl _ (zbb mk ws j) j _ (lbq5 b5) (by omega) (C5 b5) hn hw rfl HTI.out (hR.of_block (b5.block bl hR.lt))).mono ?_; rintro e w6 ⟨q, rfl, hq, a6, r6⟩; obtain rfl : q = true := hq.2 HGG.out; clear hq; have hA6 : zz bl (bl + 1) w4 w6 := (hA.trans (zaf b5 (Nat.le_refl _) _ _)).trans a6; have R6 : w6.rowIs bl 4 ws.length (fun i => .bool (zbb mk ws (j + 1) i)) := (r6 rfl).congr (fun i _ => by rw [HLN.out])))
                   first
                    | (refine ⟨⟨j + 1, hlt2, by go_num, HNX.out, R6, hA6⟩, by simp [intOf]; omega⟩)
                    | (go_roundw
                       case rel => exact ⟨j + 1, hlt2, by go_num, HNX.out, R6, hA6⟩
                       case measure => simp [intOf]; omega)
                 · have HGG : Hid (¬ zd9 ws (zbb mk ws j) j) := hG
                   clear hG
                   go_wp2_with (first | (go_at_call 43; refine (zbr _ _ _ _ _ _ _ _ _ _ _ _ _ _ _ j _ rfl SQ hn hw hlt2).mono ?_; rintro e w5 ⟨rfl, b5⟩; have KA5 := ze KAq b5 lq0) | (go_at_call 94; refine (zfo _ _ _ _ _ _ _ _ _ _ _ _ _ _ _ _ bl _ (zbb mk ws j) j _ (lbq5 b5) (by omega) (C5 b5) hn hw rfl HTI.out (hR.of_block (b5.block bl hR.lt))).mono ?_; rintro e w6 ⟨q, rfl, hq, a6, r6⟩; obtain rfl : q = false := (by cases q with | false => rfl | true => exact absurd (hq.1 rfl) HGG.out); clear hq r6; have hB6 : Below w.heap.size w w6 := ze6 hBq (((zaf b5 (Nat.le_refl _) bl (bl + 1)).trans a6).below (C := w.heap.size) (by omega) (by omega))))
                   go_ret
                   exact ⟨false, rfl, ⟨fun g => by simp at g, fun g => absurd ((HGD.out.1 g).2.2.1 j hlt2 HIT.out) HGG.out⟩, hB6⟩
               · have ek : (rdK (za ws j) == 2) = false := by simpa using hk2
                 have hnt : zbu mk ws j = false := by simp [zbu, hk2]
                 have HNX : Hid (zcm mk ws (j + 1)) := zfc HTK.out (fun g => by rw [hnt] at g; simp at g)
                 have HRX : Hid (wr.rowIs bl 4 ws.length (fun i => .bool (zbb mk ws (j + 1) i))) := hR.congr (fun i _ => by simp [zbb, hnt])
                 clear hk2 hnt
                 go_wp2_with (go_at_call 43; refine (zbr _ _ _ _ _ _ _ _ _ _ _ _ _ _ _ j _ rfl SQ hn hw hlt2).mono ?_; rintro e w5 ⟨rfl, b5⟩; have KA5 := ze KAq b5 lq0)
                 have hA5 : zz bl (bl + 1) w4 w5 := hA.trans (zaf b5 (Nat.le_refl _) _ _)
                 have R5 : w5.rowIs bl 4 ws.length (fun i => .bool (zbb mk ws (j + 1) i)) := HRX.out.of_block (b5.block bl hR.lt)
                 first
                  | (refine ⟨⟨j + 1, hlt2, by go_num, HNX.out, R5, hA5⟩, by simp [intOf]; omega⟩)
                  | (go_roundw
                     case rel => exact ⟨j + 1, hlt2, by go_num, HNX.out, R5, hA5⟩
                     case measure => simp [intOf]; omega)
             · have e1 : (mk j == 1) = false := by rw [h1]; rfl
               have e2 : (mk j == 2) = true := by simpa using h1
               clear h1
               by_cases hk2 : rdK (za ws j) = 2
               · have ek : (rdK (za ws j) == 2) = true := by simpa using hk2
                 have hit : zbu mk ws j = true := by simp [zbu, hk2]; exact HI.out
                 have hTI := HKW.out.tab hw hit
                 have HTI : Hid (zj0 ws j) := hTI
                 have hln : ∀ i, zdx ws (zbb mk ws j) j i = zbb mk ws (j + 1) i := fun i => by simp [zbb, hit]
                 have HLN : Hid (∀ i, zdx ws (zbb mk ws j) j i = zbb mk ws (j + 1) i) := hln
                 have HIT : Hid (zbu mk ws j = true) := hit
                 clear hk2 hit hTI hln
                 by_cases hG : zd9 ws (zbb mk ws j) j
                 · have HNX : Hid (zcm mk ws (j + 1)) := zfc HTK.out (fun _ => hG)
                   have HGG : Hid (zd9 ws (zbb mk ws j) j) := hG
                   clear hG
                   go_wp2_with (first | (go_at_call 43; refine (zbr _ _ _ _ _ _ _ _ _ _ _ _ _ _ _ j _ rfl SQ hn hw hlt2).mono ?_; rintro e w5 ⟨rfl, b5⟩; have KA5 := ze KAq b5 lq0) | (go_at_call 94; refine (zfo _ _ _ _ _ _ _ _ _ _ _ _ _ _ _ _ bl _ (zbb mk ws j) j _ (lbq5 b5) (by omega) (C5 b5) hn hw rfl HTI.out (hR.of_block (b5.block bl hR.lt))).mono ?_; rintro e w6 ⟨q, rfl, hq, a6, r6⟩; obtain rfl : q = true := hq.2 HGG.out; clear hq; have hA6 : zz bl (bl + 1) w4 w6 := (hA.trans (zaf b5 (Nat.le_refl _) _ _)).trans a6; have R6 : w6.rowIs bl 4 ws.length (fun i => .bool (zbb mk ws (j + 1) i)) := (r6 rfl).congr (fun i _ => by rw [HLN.out])))
                   first
                    | (refine ⟨⟨j + 1, hlt2, by go_num, HNX.out, R6, hA6⟩, by simp [intOf]; omega⟩)
                    | (go_roundw
                       case rel => exact ⟨j + 1, hlt2, by go_num, HNX.out, R6, hA6⟩
                       case measure => simp [intOf]; omega)
                 · have HGG : Hid (¬ zd9 ws (zbb mk ws j) j) := hG
                   clear hG
                   go_wp2_with (first | (go_at_call 43; refine (zbr _ _ _ _ _ _ _ _ _ _ _ _ _ _ _ j _ rfl SQ hn hw hlt2).mono ?_; rintro e w5 ⟨rfl, b5⟩; have KA5 := ze KAq b5 lq0) | (go_at_call 94; refine (zfo _ _ _ _ _ _ _ _ _ _ _ _ _ _ _ _ bl _ (zbb mk ws j) j _ (lbq5 b5) (by omega) (C5 b5) hn hw rfl HTI.out (hR.of_block (b5.block bl hR.lt))).mono ?_; rintro e w6 ⟨q, rfl, hq, a6, r6⟩; obtain rfl : q = false := (by cases q with | false => rfl | true => exact absurd (hq.1 rfl) HGG.out); clear hq r6; have hB6 : Below w.heap.size w w6 := ze6 hBq (((zaf b5 (Nat.le_refl _) bl (bl + 1)).trans a6).below (C := w.heap.size) (by omega) (by omega))))
                   go_ret
                   exact ⟨false, rfl, ⟨fun g => by simp at g, fun g => absurd ((HGD.out.1 g).2.2.1 j hlt2 HIT.out) HGG.out⟩, hB6⟩
               · have ek : (rdK (za ws j) == 2) = false := by simpa using hk2
                 have hnt : zbu mk ws j = false := by simp [zbu, hk2]
                 have HNX : Hid (zcm mk ws (j + 1)) := zfc HTK.out (fun g => by rw [hnt] at g; simp at g)
                 have HRX : Hid (wr.rowIs bl 4 ws.length (fun i => .bool (zbb mk ws (j + 1) i))) := hR.congr (fun i _ => by simp [zbb, hnt])
                 clear hk2 hnt
                 go_wp2_with (go_at_call 43; refine (zbr _ _ _ _ _ _ _ _ _ _ _ _ _ _ _ j _ rfl SQ hn hw hlt2).mono ?_; rintro e w5 ⟨rfl, b5⟩; have KA5 := ze KAq b5 lq0)
                 have hA5 : zz bl (bl + 1) w4 w5 := hA.trans (zaf b5 (Nat.le_refl _) _ _)
                 have R5 : w5.rowIs bl 4 ws.length (fun i => .bool (zbb mk ws (j + 1) i)) := HRX.out.of_block (b5.block bl hR.lt)
                 first
                  | (refine ⟨⟨j + 1, hlt2, by go_num, HNX.out, R5, hA5⟩, by simp [intOf]; omega⟩)
                  | (go_roundw
                     case rel => exact ⟨j + 1, hlt2, by go_num, HNX.out, R5, hA5⟩
                     case measure => simp [intOf]; omega)
           · have e1 : (mk j == 1) = false := by simp; exact fun g => h12 (.inl g)
             have e2 : (mk j == 2) = false := by simp; exact fun g => h12 (.inr g)
             have hnt : zbu mk ws j = false := by simp only [zbu, Bool.and_eq_false_iff, Bool.or_eq_false_iff, decide_eq_false_iff_not]; exact .inl ⟨fun g => h12 (.inl g), fun g => h12 (.inr g)⟩
             have HNX : Hid (zcm mk ws (j + 1)) := zfc HTK.out (fun g => by rw [hnt] at g; simp at g)
             have HRX : Hid (wr.rowIs bl 4 ws.length (fun i => .bool (zbb mk ws (j + 1) i))) := hR.congr (fun i _ => by simp [zbb, hnt])
             clear h12 hnt
             go_wp2
             first
              | (refine ⟨⟨j + 1, hlt2, by go_num, HNX.out, HRX.out, hA⟩, by simp [intOf]; omega⟩)
              | (go_roundw
                 case rel => exact ⟨j + 1, hlt2, by go_num, HNX.out, HRX.out, hA⟩
                 case measure => simp [intOf]; omega)
         · have hge2 : (ws.length : Int) <= (j : Int) := by omega
           have hjl : j = ws.length := by omega
           have HTL : Hid (zcm mk ws ws.length) := by show zcm mk ws ws.length; rw [<- hjl]; exact HTK.out
           have hrt2 := hrt.here.below hBq (Nat.le_refl _)
           have HRT : Hid (SlF w.heap.size wr (.slice ar rs.length cr) rs.length (2 * rs.length) (fun i => .int .i64 (y i))) := hrt2
           have SQ : Sl wr (.slice (some ⟨b, off, none⟩) ws.length cw) ws := ⟨_, _, rfl, .inr ⟨b, off, rfl, lbq, hCq.out⟩⟩
           have lq0 : w.heap.size < wr.heap.size := by omega
           have lqm : bm < wr.heap.size := by omega
           clear hrt2 hrt hR hA KA4 HM4 HC4 hjl HTK hmk hmb hfk
           go_wp2
           obtain ⟨wx, hwx⟩ : ∃ wx, wx = wr := ⟨_, rfl⟩
           subst hwx
           go_loopw [7] (fun u7 wr => ∃ i : Nat, i <= rs.length /\ u7 = .int .i64 i /\ zb9 mk ws y i /\ Below wx.heap.size wx wr) (fun u7 _ => rs.length - (intOf u7).toNat)
           case atStart => exact ⟨0, Nat.zero_le _, rfl, fun p hp => absurd hp (by omega), Below.refl _ _⟩
           case round =>
            obtain ⟨i, hi, rfl, hro, hB⟩ := hrel
            have HRO : Hid (zb9 mk ws y i) := hro
            clear hro
            have KAr := ze KAq hB lq0
            have hBr := zc hBq hB
            by_cases hlt3 : i < rs.length
            · have hlt' : (i : Int) < (rs.length : Int) := by omega
              have hrl' : (rs.length : Int) <= 24 := by omega
              obtain ⟨br, offr, cap, hv, _, lbr, hcr⟩ := HRT.out.parts (k := 0) (by omega)
              simp only [Value.slice.injEq] at hv
              obtain ⟨rfl, _, rfl⟩ := hv
              have hc1 : wr.cell? ⟨br, offr + i * 2, none⟩ = some (.int .i64 (y (2 * i))) := by rw [hB.cell (p := ⟨br, offr + i * 2, none⟩) lbr, Nat.mul_comm]; exact hcr (2 * i) (by omega)
              have hd1 : wr.cell? ⟨br, offr + i * 2 + 1, none⟩ = some (.int .i64 (y (2 * i + 1))) := by rw [hB.cell (p := ⟨br, offr + i * 2 + 1, none⟩) lbr, Nat.mul_comm]; exact hcr (2 * i + 1) (by omega)
              have HST : Hid (vOk (y (2 * i)) (y (2 * i + 1)) = true /\ y (2 * i) ≠ 8 /\ zbz mk ws (y (2 * i)) (y (2 * i + 1)) 1 -> zb9 mk ws y (i + 1)) := fun g => zqj HRO.out g
              have HNO : Hid (zb9 mk ws y rs.length -> vOk (y (2 * i)) (y (2 * i + 1)) = true /\ y (2 * i) ≠ 8 /\ zbz mk ws (y (2 * i)) (y (2 * i + 1)) 1) := fun g => g i hlt3
              clear hcr HRT
              generalize y (2 * i) = t at *
              generalize y (2 * i + 1) = m at *
              have hBv : Below wx.heap.size wx (wr.alloc (.cells #[.int .i64 t, .int .i64 m] 48)) := hB.alloc hB.size _
              have KAv := ze KAr ((Below.refl wr.heap.size wr).alloc (Nat.le_refl _) (.cells #[.int .i64 t, .int .i64 m] 48)) (Nat.lt_of_lt_of_le lq0 hB.size)
              have l0r : w.heap.size < wr.heap.size := Nat.lt_of_lt_of_le lq0 hB.size
              clear KAv
              by_cases hv : vOk t m = true
              · have HV : Hid (vOk t m = true) := hv
                have hpos : isR t = true -> 0 < m := fun g => by simp only [vOk, isR, decide_eq_true_eq] at hv g; omega
                have HP : Hid (isR t = true -> 0 < m) := hpos
                clear hpos
                by_cases h8 : t = 8
                · have e8 : (t == 8) = true := by simpa using h8
                  have H8 : Hid (t = 8) := h8
                  clear h8
                  go_wp2_with (go_at_call 95; refine (zc1 t m _).mono ?_; rw [hv]; rintro e w6 ⟨rfl, b6⟩; have q6 : ∀ i, w6.cell? ⟨wr.heap.size, i, none⟩ = (#[.int .i64 t, .int .i64 m] : Array Value)[i]? := zp b6 (by simp))
                  go_ret
                  exact ⟨false, rfl, ⟨fun g => by simp at g, fun g => absurd H8.out (HNO.out (HGD.out.1 g).2.2.2).2.1⟩, zc hBq (zc hBv b6)⟩
                · have e8 : (t == 8) = false := by simpa using h8
                  have H8 : Hid (t ≠ 8) := h8
                  clear h8
                  by_cases hL : zbz mk ws t m 1
                  · have HNX : Hid (zb9 mk ws y (i + 1)) := HST.out ⟨hv, H8.out, hL⟩
                    have HL : Hid (zbz mk ws t m 1) := hL
                    clear hL
                    go_wp2_with (first | (go_at_call 95; refine (zc1 t m _).mono ?_; rw [hv]; rintro e w6 ⟨rfl, b6⟩; have q6 : ∀ i, w6.cell? ⟨wr.heap.size, i, none⟩ = (#[.int .i64 t, .int .i64 m] : Array Value)[i]? := zp b6 (by simp); have hB6 := zc hBv b6; have KA6 := ze KAq hB6 lq0) | (go_at_call 96; refine (zet _ _ _ _ _ _ _ _ _ _ _ _ _ _ bm 0 _ mk t m 1 _ hn hw (SQ.below hB6) (Nat.lt_of_lt_of_le lqm hB6.size) (fun i hi => by rw [Nat.zero_add, hB6.cell (p := ⟨bm, i, none⟩) lqm]; exact hMq.out i hi) HM.out HP.out (.inl rfl)).mono ?_; rintro e w7 ⟨q, rfl, hq, b7⟩; obtain rfl : q = true := hq.2 HL.out; clear hq))
                    first
                     | (refine ⟨⟨i + 1, hlt3, by go_num, HNX.out, zc hB6 b7⟩, by simp [intOf]; omega⟩)
                     | (go_roundw
                        case rel => exact ⟨i + 1, hlt3, by go_num, HNX.out, zc hB6 b7⟩
                        case measure => simp [intOf]; omega)
                  · have HL : Hid (¬ zbz mk ws t m 1) := hL
                    clear hL
                    go_wp2_with (first | (go_at_call 95; refine (zc1 t m _).mono ?_; rw [hv]; rintro e w6 ⟨rfl, b6⟩; have q6 : ∀ i, w6.cell? ⟨wr.heap.size, i, none⟩ = (#[.int .i64 t, .int .i64 m] : Array Value)[i]? := zp b6 (by simp); have hB6 := zc hBv b6; have KA6 := ze KAq hB6 lq0) | (go_at_call 96; refine (zet _ _ _ _ _ _ _ _ _ _ _ _ _ _ bm 0 _ mk t m 1 _ hn hw (SQ.below hB6) (Nat.lt_of_lt_of_le lqm hB6.size) (fun i hi => by rw [Nat.zero_add, hB6.cell (p := ⟨bm, i, none⟩) lqm]; exact hMq.out i hi) HM.out HP.out (.inl rfl)).mono ?_; rintro e w7 ⟨q, rfl, hq, b7⟩; obtain rfl : q = false := (by cases q with | false => rfl | true => exact absurd (hq.1 rfl) HL.out); clear hq))
                    go_ret
                    exact ⟨false, rfl, ⟨fun g => by simp at g, fun g => absurd (HNO.out (HGD.out.1 g).2.2.2).2.2 HL.out⟩, zc hBq (zc hB6 b7)⟩
              · rw [Bool.not_eq_true] at hv
                go_wp2_with (go_at_call 95; refine (zc1 t m _).mono ?_; rw [hv]; rintro e w6 ⟨rfl, b6⟩)
                go_ret
                exact ⟨false, rfl, ⟨fun g => by simp at g, fun g => by have := (HNO.out (HGD.out.1 g).2.2.2).1; rw [hv] at this; simp at this⟩, zc hBq (zc hBv b6)⟩
            · have hil : i = rs.length := by omega
              have HRL : Hid (zb9 mk ws y rs.length) := by show zb9 mk ws y rs.length; rw [<- hil]; exact HRO.out
              have hge3 : (rs.length : Int) <= (i : Int) := by omega
              have HEND : Hid (zc2 ws smz toh top cyc sn old cpz sr y rs.length) := HGD.out.2 ⟨HN3.out, HKW.out.objs, HTL.out, HRL.out⟩
              clear hil
              go_wp2
              go_ret
              first
               | exact ⟨true, rfl, ⟨fun _ => HEND.out, fun _ => rfl⟩, hBr⟩
               | exact Or.inr ⟨rfl, HEND.out, hBr⟩
 · go_wp2
   go_ret
   refine ⟨false, rfl, ⟨fun g => by simp at g, fun g => ?_⟩, B2⟩
   obtain ⟨L, O, t, _⟩ := HG.out.1 g
   exact absurd ⟨L, O, t⟩ hno
end Go.Proofs.YtmckcnmlhgpnhaaGreat
