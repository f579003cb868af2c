/- The model's ArenaOk. -/
import Derived.Test.YtmckcnmlhgpnhaaGreatProg
import Derived.Test.YtmckcnmlhgpnhaaGreatKOkA
import Derived.Test.YtmckcnmlhgpnhaaGreatKSerialsA
import Derived.Test.YtmckcnmlhgpnhaaGreatKNumbersF
namespace Go.Proofs.YtmckcnmlhgpnhaaGreat
set_option maxRecDepth 20000
open Go.RowKit
set_option linter.unusedSimpArgs false
set_option linter.unusedVariables false

theorem below_next' {w w1 w2 : World} (h : Below w.heap.size w w1) (k : Below w.heap.size w1 w2) : Below w.heap.size w w2 := h.trans k
theorem specArenaOk_num (aw : Option Addr) (cw : Nat) (ws : List Int) (semi toh top : Int) (cyc : Bool) (scan old copied serial : Int) (ar : Option Addr) (cr : Nat) (rs : List (Int × Int)) (w : World) (hn : ws.length ≤ 1048576) (hn2 : rs.length ≤ 1048576) (h : numOk ws.length semi toh top cyc scan old copied serial rs.length = false) :
    Calls Tryz.prog 41 #[.agg #[.slice aw ws.length cw, .int .i64 semi, .int .i64 toh, .int .i64 top, .bool cyc, .int .i64 scan, .int .i64 old, .int .i64 copied, .int .i64 serial, .slice ar rs.length cr]] w fun e w' => e = .returned (.bool false) ∧ Below w.heap.size w w' := by
  go_enter Tryz.func41, Tryz.ntmps41
  go_wp2_with fail
  refine (l2Numbers_any aw cw ws semi toh top cyc scan old copied serial ar cr rs _ hn hn2).mono ?_
  rw [h]
  rintro e w1 ⟨rfl, b1⟩
  have B1 := below_first b1
  clear b1
  go_wp2
  go_ret
  exact ⟨rfl, B1⟩
set_option maxHeartbeats 4000000 in
theorem specArenaOk_main (b off cw : Nat) (ws : List Int) (semi toh top : Int) (cyc : Bool) (scan old copied serial : Int) (ar : Option Addr) (cr : Nat) (rs : List (Int × Int)) (y : Nat → Int) (Tr : Nat) (w : World) (S T F : Nat) (hb : b < w.heap.size) (hc : ∀ i, i < ws.length → w.cell? ⟨b, off + i, none⟩ = some (.int .u64 (wordAt ws i))) (hn : ws.length ≤ 1048576) (hw : Words64 ws) (hrt : SlF Tr w (.slice ar rs.length cr) rs.length (2 * rs.length) (fun i => .int .i64 (y i))) (hnum : numOk ws.length semi toh top cyc scan old copied serial rs.length = true)
    (hS : toh * semi + 1 = S) (hT : top = T) (hF : (1 - toh) * semi + 1 = F) (s0 : 256 ≤ semi) (s1 : semi ≤ 4000) (t0 : 0 ≤ toh) (t1 : toh ≤ 1) (hST : S ≤ T) (hTn : T ≤ ws.length) (hold : cyc = true → (F : Int) ≤ old ∧ old ≤ ws.length ∧ (T ≤ F ∨ old ≤ S)) (hrl : rs.length ≤ 24) :
    Calls Tryz.prog 41 #[(.agg #[.slice (some ⟨b, off, none⟩) ws.length cw, .int .i64 semi, .int .i64 toh, .int .i64 top, .bool cyc, .int .i64 scan, .int .i64 old, .int .i64 copied, .int .i64 serial, .slice ar rs.length cr])] w fun e w' => ∃ q, e = .returned (.bool q) ∧ (q = true ↔ ArenaGood ws semi toh top cyc scan old copied serial y rs.length) ∧ Below w.heap.size w w' := by
  have hmk := fun (w : World) => run_make_row' (P := Tryz.prog) 64 3 (.int .i64 0) 8 Tryz.underlying64 infoI rfl .i64 .i64 ws.length (by omega) (by omega) w
  have hmb := fun (w : World) => run_make_row' (P := Tryz.prog) 75 4 (.bool false) 1 Tryz.underlying75 infoB rfl .i64 .i64 ws.length (by omega) (by omega) w
  have hn' : (ws.length : Int) ≤ 1048576 := by omega
  have HG : Hid (ArenaGood ws semi toh top cyc scan old copied serial y rs.length ↔ ∃ L O, Tiling ws serial S T cyc F old copied scan L O ∧ (hadL (mk2 ws L O) ws ws.length).Nodup ∧ ObjsOk (mk2 ws L O) ws cyc scan ws.length ∧ TabsOk (mk2 ws L O) ws ws.length ∧ RootsOk (mk2 ws L O) ws y rs.length) := by
    show ArenaGood ws semi toh top cyc scan old copied serial y rs.length ↔ _
    unfold ArenaGood
    rw [hS, hT, hF]
    simp only [Int.toNat_natCast]
  have HS : Hid (toh * semi + 1 = (S : Int)) := hS
  have HT : Hid (top = (T : Int)) := hT
  have HF : Hid ((1 - toh) * semi + 1 = (F : Int)) := hF
  have HO : Hid (cyc = true → (F : Int) ≤ old ∧ old ≤ ws.length ∧ (T ≤ F ∨ old ≤ S)) := hold
  have HNUM : Hid (numOk ws.length semi toh top cyc scan old copied serial rs.length = true) := hnum
  clear hS hT hF hold hnum
  go_enter Tryz.func41, Tryz.ntmps41
  go_wp2_with fail
  refine (l2Numbers_any _ _ _ _ _ _ _ _ _ _ _ _ _ _ _ hn (by omega)).mono ?_
  rw [HNUM.out]
  rintro e w1 ⟨rfl, b1⟩
  have KA := one_cells b1 (by simp)
  have z1 := size_first b1
  have B1 := below_first b1
  obtain ⟨lb1, C1⟩ := arx_cells hb hc B1
  clear b1
  go_wp2_with fail
  refine (l2Tile_at b off cw ws semi toh top cyc scan old copied serial ar cr rs w1.heap.size ws.length _ hn hw (lt_alloc lb1) (by omega) (fun i hi => cell_alloc_lt lb1 (C1 i hi)) (World.rowIs_made w1 (.int .i64 0) ws.length 3) s0 s1 t0 t1 S T F HS.out HT.out hST hTn HF.out HO.out).mono ?_
  rintro e w2 ⟨q, rfl, hq, a2⟩
  have A2 : Below w1.heap.size w1 w2 := ((below_apart ((Below.refl w1.heap.size w1).alloc (Nat.le_refl _) _) (Nat.le_refl _) w1.heap.size (w1.heap.size + 1)).trans a2).below (Nat.le_refl _) (Nat.le_refl _)
  have KA2 := has_below KA A2 z1
  have B2 := below_next B1 A2
  clear a2
  rcases hq with ⟨rfl, L, O, til, row⟩ | ⟨rfl, hno⟩
  · have hO2 : cyc = true → old ≤ ws.length := fun h => (HO.out h).2.1
    have hd2 : cyc = true → T ≤ F ∨ old.toNat ≤ S := fun h => by have := (HO.out h).2.2; omega
    obtain ⟨mk, hmke⟩ : ∃ mk, mk = mk2 ws L O := ⟨_, rfl⟩
    have HM : Hid (Marks mk ws) := by show Marks mk ws; rw [hmke]; exact til.marks hTn
    have HOB : Hid (∀ i, isObj mk i → rdOk (wordAt ws i) = true ∧ i + (rdS (wordAt ws i)).toNat < ws.length) := by
      show ∀ i, isObj mk i → _
      rw [hmke]
      exact fun i hi => ⟨(til.object hi).1, til.within hTn hO2 hi⟩
    have HKN : Hid (ObjsOk mk ws cyc scan ws.length → Known mk ws cyc scan) := by
      show ObjsOk mk ws cyc scan ws.length → Known mk ws cyc scan
      rw [hmke]
      exact fun ho => til.known hTn hO2 hd2 ho
    have HGD : Hid (ArenaGood ws semi toh top cyc scan old copied serial y rs.length ↔ (hadL mk ws ws.length).Nodup ∧ ObjsOk mk ws cyc scan ws.length ∧ TabsOk mk ws ws.length ∧ RootsOk mk ws y rs.length) := by
      show ArenaGood ws semi toh top cyc scan old copied serial y rs.length ↔ _
      rw [HG.out, hmke]
      constructor
      · rintro ⟨L', O', t', r'⟩
        obtain ⟨rfl, rfl⟩ := til.same t'
        exact r'
      · exact fun r' => ⟨L, O, til, r'⟩
    rw [← hmke] at row
    have lbm : w1.heap.size < w2.heap.size := row.lt
    have MC2 : ∀ i, i < ws.length → w2.cell? ⟨w1.heap.size, 0 + i, none⟩ = some (.int .i64 (mk i)) := fun i hi => by rw [Nat.zero_add]; exact row.cell hi
    obtain ⟨lb2, C2⟩ := arx_cells lb1 C1 A2
    have S2 : Sl w2 (.slice (some ⟨b, off, none⟩) ws.length cw) ws := ⟨_, _, rfl, .inr ⟨b, off, rfl, lb2, C2⟩⟩
    have RT2 : SlF Tr w2 (.slice ar rs.length cr) rs.length (2 * rs.length) (fun i => .int .i64 (y i)) ∨ True := .inr trivial
    clear RT2
    clear til hmke HG HS HT HF HO hO2 hd2 KA C1 lb1
    generalize w1.heap.size = bm at *
    go_wp2_with fail
    refine (l2Serials_at _ _ _ _ _ _ _ _ _ _ _ _ _ _ 0 bm 0 ws.length mk _ S2 hn hw lbm MC2).mono ?_
    rintro e w3 ⟨q, rfl, hq, b3⟩
    have HQ3 : Hid (q = true ↔ (hadL mk ws ws.length).Nodup) := hq
    have KA3 := has_below KA2 b3 (by omega)
    have l3 : w.heap.size < w3.heap.size := by have := b3.size; omega
    have lbm3 : bm < w3.heap.size := Nat.lt_of_lt_of_le lbm b3.size
    have M3 : ∀ i, i < ws.length → w3.cell? ⟨bm, i, none⟩ = some (.int .i64 (mk i)) := fun i hi => by rw [b3.cell (p := ⟨bm, i, none⟩) lbm]; exact row.cell hi
    obtain ⟨lb3, C3⟩ := arx_cells lb2 C2 b3
    have S3 := S2.below b3
    have B3 := below_next B2 b3
    clear hq KA2 b3 row MC2 lb2 C2 S2 A2
    cases q with
    | false =>
      go_wp2
      go_ret
      exact ⟨false, rfl, ⟨fun g => by simp at g, fun g => absurd (HQ3.out.2 (HGD.out.1 g).1) (by simp)⟩, B3⟩
    | true =>
      have HN3 : Hid ((hadL mk ws ws.length).Nodup) := HQ3.out.1 rfl
      clear HQ3
      have HM3 : Hid (∀ i, i < ws.length → w3.cell? ⟨bm, i, none⟩ = some (.int .i64 (mk i))) := M3
      have HC3 : Hid (∀ i, i < ws.length → w3.cell? ⟨b, off + i, none⟩ = some (.int .u64 (wordAt ws i))) := C3
      clear M3 C3 hc
      go_wp2
      go_loopw [4] (fun u4 wr => ∃ k : Nat, k ≤ ws.length ∧ u4 = .int .i64 k ∧ ObjsOk mk ws cyc scan k ∧ Below w3.heap.size w3 wr) (fun u4 _ => ws.length - (intOf u4).toNat)
      case atStart => exact ⟨0, Nat.zero_le _, rfl, fun p hp => absurd hp (by omega), Below.refl _ _⟩
      case round =>
        obtain ⟨k, hk, rfl, hob, hB⟩ := hrel
        have HOK : Hid (ObjsOk mk ws cyc scan k) := hob
        clear hob
        have KAr := has_below KA3 hB l3
        have lwr := hB.size
        by_cases hlt : k < ws.length
        · have hlt' : (k : Int) < (ws.length : Int) := by omega
          have mkc : wr.cell? ⟨bm, k, none⟩ = some (.int .i64 (mk k)) := by rw [hB.cell (p := ⟨bm, k, none⟩) lbm3]; exact HM3.out k hlt
          have HMr : Hid (∀ i, i < ws.length → wr.cell? ⟨bm, 0 + i, none⟩ = some (.int .i64 (mk i))) := fun i hi => by rw [Nat.zero_add, hB.cell (p := ⟨bm, i, none⟩) lbm3]; exact HM3.out i hi
          have lbr : bm < wr.heap.size := Nat.lt_of_lt_of_le lbm3 hB.size
          have SR := S3.below hB
          have hBr := below_next B3 hB
          by_cases h12 : isObj mk k
          · have HI : Hid (isObj mk k) := h12
            obtain ⟨hrd, hin⟩ := HOB.out k h12
            have HE1 : Hid (ObjOk mk ws (frOf mk cyc scan k) k → ObjsOk mk ws cyc scan (k + 1)) := fun g => objs_step HOK.out (fun _ => g)
            by_cases hO : ObjOk mk ws (frOf mk cyc scan k) k
            · have HNX : Hid (ObjsOk mk ws cyc scan (k + 1)) := HE1.out hO
              have HOO : Hid (ObjOk mk ws (frOf mk cyc scan k) k) := hO
              clear hO
              rcases h12 with h1 | h1
              · have e1 : (mk k == 1) = true := by simpa using h1
                clear h1
                go_wp2_with (go_at_call 93; refine (l2Object_walk _ _ _ _ _ _ _ _ _ _ _ _ _ _ bm 0 _ mk _ k _ rfl hn hw SR lbr HMr.out HM.out hrd hin _ rfl).mono ?_; rintro e w4 ⟨q, rfl, hq, b4⟩; obtain rfl : q = true := hq.2 HOO.out; clear hq)
                first
                  | (refine ⟨⟨k + 1, hlt, by go_num, HNX.out, below_next hB b4⟩, by simp [intOf]; omega⟩)
                  | (go_roundw
                     case rel => exact ⟨k + 1, hlt, by go_num, HNX.out, below_next hB b4⟩
                     case measure => simp [intOf]; omega)
              · have e1 : (mk k == 1) = false := by rw [h1]; rfl
                have e2 : (mk k == 2) = true := by simpa using h1
                clear h1
                go_wp2_with (go_at_call 93; refine (l2Object_walk _ _ _ _ _ _ _ _ _ _ _ _ _ _ bm 0 _ mk _ k _ rfl hn hw SR lbr HMr.out HM.out hrd hin _ rfl).mono ?_; rintro e w4 ⟨q, rfl, hq, b4⟩; obtain rfl : q = true := hq.2 HOO.out; clear hq)
                first
                  | (refine ⟨⟨k + 1, hlt, by go_num, HNX.out, below_next hB b4⟩, by simp [intOf]; omega⟩)
                  | (go_roundw
                     case rel => exact ⟨k + 1, hlt, by go_num, HNX.out, below_next hB b4⟩
                     case measure => simp [intOf]; omega)
            · have HOO : Hid (¬ ObjOk mk ws (frOf mk cyc scan k) k) := hO
              clear hO
              rcases h12 with h1 | h1
              · have e1 : (mk k == 1) = true := by simpa using h1
                clear h1
                go_wp2_with (go_at_call 93; refine (l2Object_walk _ _ _ _ _ _ _ _ _ _ _ _ _ _ bm 0 _ mk _ k _ rfl hn hw SR lbr HMr.out HM.out hrd hin _ rfl).mono ?_; rintro e w4 ⟨q, rfl, hq, b4⟩; obtain rfl : q = false := by cases q with | false => rfl | true => exact absurd (hq.1 rfl) HOO.out)
                go_ret
                exact ⟨false, rfl, ⟨fun g => by simp at g, fun g => absurd ((HGD.out.1 g).2.1 k hlt HI.out) HOO.out⟩, below_next hBr b4⟩
              · have e1 : (mk k == 1) = false := by rw [h1]; rfl
                have e2 : (mk k == 2) = true := by simpa using h1
                clear h1
                go_wp2_with (go_at_call 93; refine (l2Object_walk _ _ _ _ _ _ _ _ _ _ _ _ _ _ bm 0 _ mk _ k _ rfl hn hw SR lbr HMr.out HM.out hrd hin _ rfl).mono ?_; rintro e w4 ⟨q, rfl, hq, b4⟩; obtain rfl : q = false := by cases q with | false => rfl | true => exact absurd (hq.1 rfl) HOO.out)
                go_ret
                exact ⟨false, rfl, ⟨fun g => by simp at g, fun g => absurd ((HGD.out.1 g).2.1 k hlt HI.out) HOO.out⟩, below_next hBr b4⟩
          · have e1 : (mk k == 1) = false := by simp; exact fun g => h12 (.inl g)
            have e2 : (mk k == 2) = false := by simp; exact fun g => h12 (.inr g)
            have HNX : Hid (ObjsOk mk ws cyc scan (k + 1)) := objs_step HOK.out (fun g => absurd g h12)
            clear h12
            go_wp2
            first
              | (refine ⟨⟨k + 1, hlt, by go_num, HNX.out, hB⟩, by simp [intOf]; omega⟩)
              | (go_roundw
                 case rel => exact ⟨k + 1, hlt, by go_num, HNX.out, hB⟩
                 case measure => simp [intOf]; omega)
        · have hkl : k = ws.length := by omega
          have HOL : Hid (ObjsOk mk ws cyc scan ws.length) := by show ObjsOk mk ws cyc scan ws.length; rw [← hkl]; exact HOK.out
          have HKW : Hid (Known mk ws cyc scan) := HKN.out HOL.out
          have hge : (ws.length : Int) ≤ (k : Int) := by omega
          obtain ⟨w4, hw4⟩ : ∃ w4, w4 = wr.alloc (.cells (madeCells #[.bool false] ws.length) 4) := ⟨_, rfl⟩
          have R4 : w4.rowIs wr.heap.size 4 ws.length (fun i => .bool (ledN mk ws 0 i)) := by rw [hw4]; exact (World.rowIs_made wr (.bool false) ws.length 4).congr fun i _ => rfl
          have hB4 : Below w3.heap.size w3 w4 := by rw [hw4]; exact hB.alloc lwr _
          have KA4 := has_below KA3 hB4 l3
          have hlb : bm < wr.heap.size := by omega
          have hbw : b < wr.heap.size := by omega
          have hww : w.heap.size < wr.heap.size := by omega
          have l4 : wr.heap.size < w4.heap.size := R4.lt
          have HM4 : Hid (∀ i, i < ws.length → w4.cell? ⟨bm, i, none⟩ = some (.int .i64 (mk i))) := fun i hi => by rw [hB4.cell (p := ⟨bm, i, none⟩) lbm3]; exact HM3.out i hi
          have HC4 : Hid (∀ i, i < ws.length → w4.cell? ⟨b, off + i, none⟩ = some (.int .u64 (wordAt ws i))) := (arx_cells lb3 HC3.out hB4).2
          have B4 := below_next B3 hB4
          clear KA3 lwr hB hB4 S3 lbm3 lb3 HM3 HC3 HOK l3 HOL HKN hkl HOB
          have hfk := field_kind
          go_upto_region 12 with fail
          rw [← hw4]
          clear hw4 KAr
          generalize wr.heap.size = bl at *
          go_wp2
          go_loopw [6] (fun u6 wr => ∃ k : Nat, k ≤ ws.length ∧ u6 = .int .i64 k ∧ TabsOk mk ws k ∧ wr.rowIs bl 4 ws.length (fun i => .bool (ledN mk ws k i)) ∧ Apart bl (bl + 1) w4 wr) (fun u6 _ => ws.length - (intOf u6).toNat)
          case atStart => exact ⟨0, Nat.zero_le _, rfl, fun p hp => absurd hp (by omega), R4, Apart.refl _ _ _⟩
          case round =>
            obtain ⟨j, hj, rfl, htb, hR, hA⟩ := hrel
            have HTK : Hid (TabsOk mk ws j) := htb
            clear htb R4
            have KAq := has_apart KA4 hA (by omega) (by omega)
            have lwq := hA.size
            have hCq : Hid (∀ i, i < ws.length → wr.cell? ⟨b, off + i, none⟩ = some (.int .u64 (wordAt ws i))) := fun i hi => by rw [World.cell?_of_block (w := w4) (hA.block b (by omega) (by omega))]; exact HC4.out i hi
            have hMq : Hid (∀ i, i < ws.length → wr.cell? ⟨bm, i, none⟩ = some (.int .i64 (mk i))) := fun i hi => by rw [World.cell?_of_block (w := w4) (hA.block bm (by omega) (by omega))]; exact HM4.out i hi
            have lbq : b < wr.heap.size := by omega
            have hBq : Below w.heap.size w wr := below_next' B4 (hA.below (C := w.heap.size) (by omega) (by omega))
            by_cases hlt2 : j < ws.length
            · have hlt' : (j : Int) < (ws.length : Int) := by omega
              have mkc : wr.cell? ⟨bm, j, none⟩ = some (.int .i64 (mk j)) := hMq.out j hlt2
              have SQ : Sl wr (.slice (some ⟨b, off, none⟩) ws.length cw) ws := ⟨_, _, rfl, .inr ⟨b, off, rfl, lbq, hCq.out⟩⟩
              have lq0 : w.heap.size < wr.heap.size := by omega
              have lbq5 : ∀ {w5 : World}, Below wr.heap.size wr w5 → b < w5.heap.size := fun h => Nat.lt_of_lt_of_le lbq h.size
              have C5 : ∀ {w5 : World}, Below wr.heap.size wr w5 → ∀ i, i < ws.length → w5.cell? ⟨b, off + i, none⟩ = some (.int .u64 (wordAt ws i)) := fun h => (arx_cells lbq hCq.out h).2
              by_cases h12 : isObj mk j
              · have HI : Hid (isObj mk j) := h12
                rcases h12 with h1 | h1
                · have e1 : (mk j == 1) = true := by simpa using h1
                  clear h1
                  by_cases hk2 : rdK (wordAt ws j) = 2
                  · have ek : (rdK (wordAt ws j) == 2) = true := by simpa using hk2
                    have hit : isTab mk ws j = true := by simp [isTab, hk2]; exact HI.out
                    have hTI := HKW.out.tab hw hit
                    have HTI : Hid (TabIn ws j) := hTI
                    have hln : ∀ i, ledNext ws (ledN mk ws j) j i = ledN mk ws (j + 1) i := fun i => by simp [ledN, hit]
                    have HLN : Hid (∀ i, ledNext ws (ledN mk ws j) j i = ledN mk ws (j + 1) i) := hln
                    have HIT : Hid (isTab mk ws j = true) := hit
                    clear hk2 hit hTI hln
                    by_cases hG : TabGood ws (ledN mk ws j) j
                    · have HNX : Hid (TabsOk mk ws (j + 1)) := tabs_step HTK.out (fun _ => hG)
                      have HGG : Hid (TabGood ws (ledN mk ws j) j) := hG
                      clear hG
                      go_wp2_with (first | (go_at_call 43; refine (l2Look_at _ _ _ _ _ _ _ _ _ _ _ _ _ _ _ j _ rfl SQ hn hw hlt2).mono ?_; rintro e w5 ⟨rfl, b5⟩; have KA5 := has_below KAq b5 lq0) | (go_at_call 94; refine (l2TabOk_at _ _ _ _ _ _ _ _ _ _ _ _ _ _ _ _ bl _ (ledN mk ws j) j _ (lbq5 b5) (by omega) (C5 b5) hn hw rfl HTI.out (hR.of_block (b5.block bl hR.lt))).mono ?_; rintro e w6 ⟨q, rfl, hq, a6, r6⟩; obtain rfl : q = true := hq.2 HGG.out; clear hq; have hA6 : Apart bl (bl + 1) w4 w6 := (hA.trans (below_apart b5 (Nat.le_refl _) _ _)).trans a6; have R6 : w6.rowIs bl 4 ws.length (fun i => .bool (ledN mk ws (j + 1) i)) := (r6 rfl).congr (fun i _ => by rw [HLN.out])))
                      first
                        | (refine ⟨⟨j + 1, hlt2, by go_num, HNX.out, R6, hA6⟩, by simp [intOf]; omega⟩)
                        | (go_roundw
                           case rel => exact ⟨j + 1, hlt2, by go_num, HNX.out, R6, hA6⟩
                           case measure => simp [intOf]; omega)
                    · have HGG : Hid (¬ TabGood ws (ledN mk ws j) j) := hG
                      clear hG
                      go_wp2_with (first | (go_at_call 43; refine (l2Look_at _ _ _ _ _ _ _ _ _ _ _ _ _ _ _ j _ rfl SQ hn hw hlt2).mono ?_; rintro e w5 ⟨rfl, b5⟩; have KA5 := has_below KAq b5 lq0) | (go_at_call 94; refine (l2TabOk_at _ _ _ _ _ _ _ _ _ _ _ _ _ _ _ _ bl _ (ledN mk ws j) j _ (lbq5 b5) (by omega) (C5 b5) hn hw rfl HTI.out (hR.of_block (b5.block bl hR.lt))).mono ?_; rintro e w6 ⟨q, rfl, hq, a6, r6⟩; obtain rfl : q = false := (by cases q with | false => rfl | true => exact absurd (hq.1 rfl) HGG.out); clear hq r6; have hB6 : Below w.heap.size w w6 := below_next' hBq (((below_apart b5 (Nat.le_refl _) bl (bl + 1)).trans a6).below (C := w.heap.size) (by omega) (by omega))))
                      go_ret
                      exact ⟨false, rfl, ⟨fun g => by simp at g, fun g => absurd ((HGD.out.1 g).2.2.1 j hlt2 HIT.out) HGG.out⟩, hB6⟩
                  · have ek : (rdK (wordAt ws j) == 2) = false := by simpa using hk2
                    have hnt : isTab mk ws j = false := by simp [isTab, hk2]
                    have HNX : Hid (TabsOk mk ws (j + 1)) := tabs_step HTK.out (fun g => by rw [hnt] at g; simp at g)
                    have HRX : Hid (wr.rowIs bl 4 ws.length (fun i => .bool (ledN mk ws (j + 1) i))) := hR.congr (fun i _ => by simp [ledN, hnt])
                    clear hk2 hnt
                    go_wp2_with (go_at_call 43; refine (l2Look_at _ _ _ _ _ _ _ _ _ _ _ _ _ _ _ j _ rfl SQ hn hw hlt2).mono ?_; rintro e w5 ⟨rfl, b5⟩; have KA5 := has_below KAq b5 lq0)
                    have hA5 : Apart bl (bl + 1) w4 w5 := hA.trans (below_apart b5 (Nat.le_refl _) _ _)
                    have R5 : w5.rowIs bl 4 ws.length (fun i => .bool (ledN mk ws (j + 1) i)) := HRX.out.of_block (b5.block bl hR.lt)
                    first
                      | (refine ⟨⟨j + 1, hlt2, by go_num, HNX.out, R5, hA5⟩, by simp [intOf]; omega⟩)
                      | (go_roundw
                         case rel => exact ⟨j + 1, hlt2, by go_num, HNX.out, R5, hA5⟩
                         case measure => simp [intOf]; omega)
                · have e1 : (mk j == 1) = false := by rw [h1]; rfl
                  have e2 : (mk j == 2) = true := by simpa using h1
                  clear h1
                  by_cases hk2 : rdK (wordAt ws j) = 2
                  · have ek : (rdK (wordAt ws j) == 2) = true := by simpa using hk2
                    have hit : isTab mk ws j = true := by simp [isTab, hk2]; exact HI.out
                    have hTI := HKW.out.tab hw hit
                    have HTI : Hid (TabIn ws j) := hTI
                    have hln : ∀ i, ledNext ws (ledN mk ws j) j i = ledN mk ws (j + 1) i := fun i => by simp [ledN, hit]
                    have HLN : Hid (∀ i, ledNext ws (ledN mk ws j) j i = ledN mk ws (j + 1) i) := hln
                    have HIT : Hid (isTab mk ws j = true) := hit
                    clear hk2 hit hTI hln
                    by_cases hG : TabGood ws (ledN mk ws j) j
                    · have HNX : Hid (TabsOk mk ws (j + 1)) := tabs_step HTK.out (fun _ => hG)
                      have HGG : Hid (TabGood ws (ledN mk ws j) j) := hG
                      clear hG
                      go_wp2_with (first | (go_at_call 43; refine (l2Look_at _ _ _ _ _ _ _ _ _ _ _ _ _ _ _ j _ rfl SQ hn hw hlt2).mono ?_; rintro e w5 ⟨rfl, b5⟩; have KA5 := has_below KAq b5 lq0) | (go_at_call 94; refine (l2TabOk_at _ _ _ _ _ _ _ _ _ _ _ _ _ _ _ _ bl _ (ledN mk ws j) j _ (lbq5 b5) (by omega) (C5 b5) hn hw rfl HTI.out (hR.of_block (b5.block bl hR.lt))).mono ?_; rintro e w6 ⟨q, rfl, hq, a6, r6⟩; obtain rfl : q = true := hq.2 HGG.out; clear hq; have hA6 : Apart bl (bl + 1) w4 w6 := (hA.trans (below_apart b5 (Nat.le_refl _) _ _)).trans a6; have R6 : w6.rowIs bl 4 ws.length (fun i => .bool (ledN mk ws (j + 1) i)) := (r6 rfl).congr (fun i _ => by rw [HLN.out])))
                      first
                        | (refine ⟨⟨j + 1, hlt2, by go_num, HNX.out, R6, hA6⟩, by simp [intOf]; omega⟩)
                        | (go_roundw
                           case rel => exact ⟨j + 1, hlt2, by go_num, HNX.out, R6, hA6⟩
                           case measure => simp [intOf]; omega)
                    · have HGG : Hid (¬ TabGood ws (ledN mk ws j) j) := hG
                      clear hG
                      go_wp2_with (first | (go_at_call 43; refine (l2Look_at _ _ _ _ _ _ _ _ _ _ _ _ _ _ _ j _ rfl SQ hn hw hlt2).mono ?_; rintro e w5 ⟨rfl, b5⟩; have KA5 := has_below KAq b5 lq0) | (go_at_call 94; refine (l2TabOk_at _ _ _ _ _ _ _ _ _ _ _ _ _ _ _ _ bl _ (ledN mk ws j) j _ (lbq5 b5) (by omega) (C5 b5) hn hw rfl HTI.out (hR.of_block (b5.block bl hR.lt))).mono ?_; rintro e w6 ⟨q, rfl, hq, a6, r6⟩; obtain rfl : q = false := (by cases q with | false => rfl | true => exact absurd (hq.1 rfl) HGG.out); clear hq r6; have hB6 : Below w.heap.size w w6 := below_next' hBq (((below_apart b5 (Nat.le_refl _) bl (bl + 1)).trans a6).below (C := w.heap.size) (by omega) (by omega))))
                      go_ret
                      exact ⟨false, rfl, ⟨fun g => by simp at g, fun g => absurd ((HGD.out.1 g).2.2.1 j hlt2 HIT.out) HGG.out⟩, hB6⟩
                  · have ek : (rdK (wordAt ws j) == 2) = false := by simpa using hk2
                    have hnt : isTab mk ws j = false := by simp [isTab, hk2]
                    have HNX : Hid (TabsOk mk ws (j + 1)) := tabs_step HTK.out (fun g => by rw [hnt] at g; simp at g)
                    have HRX : Hid (wr.rowIs bl 4 ws.length (fun i => .bool (ledN mk ws (j + 1) i))) := hR.congr (fun i _ => by simp [ledN, hnt])
                    clear hk2 hnt
                    go_wp2_with (go_at_call 43; refine (l2Look_at _ _ _ _ _ _ _ _ _ _ _ _ _ _ _ j _ rfl SQ hn hw hlt2).mono ?_; rintro e w5 ⟨rfl, b5⟩; have KA5 := has_below KAq b5 lq0)
                    have hA5 : Apart bl (bl + 1) w4 w5 := hA.trans (below_apart b5 (Nat.le_refl _) _ _)
                    have R5 : w5.rowIs bl 4 ws.length (fun i => .bool (ledN mk ws (j + 1) i)) := HRX.out.of_block (b5.block bl hR.lt)
                    first
                      | (refine ⟨⟨j + 1, hlt2, by go_num, HNX.out, R5, hA5⟩, by simp [intOf]; omega⟩)
                      | (go_roundw
                         case rel => exact ⟨j + 1, hlt2, by go_num, HNX.out, R5, hA5⟩
                         case measure => simp [intOf]; omega)
              · have e1 : (mk j == 1) = false := by simp; exact fun g => h12 (.inl g)
                have e2 : (mk j == 2) = false := by simp; exact fun g => h12 (.inr g)
                have hnt : isTab mk ws j = false := by simp only [isTab, Bool.and_eq_false_iff, Bool.or_eq_false_iff, decide_eq_false_iff_not]; exact .inl ⟨fun g => h12 (.inl g), fun g => h12 (.inr g)⟩
                have HNX : Hid (TabsOk mk ws (j + 1)) := tabs_step HTK.out (fun g => by rw [hnt] at g; simp at g)
                have HRX : Hid (wr.rowIs bl 4 ws.length (fun i => .bool (ledN mk ws (j + 1) i))) := hR.congr (fun i _ => by simp [ledN, hnt])
                clear h12 hnt
                go_wp2
                first
                  | (refine ⟨⟨j + 1, hlt2, by go_num, HNX.out, HRX.out, hA⟩, by simp [intOf]; omega⟩)
                  | (go_roundw
                     case rel => exact ⟨j + 1, hlt2, by go_num, HNX.out, HRX.out, hA⟩
                     case measure => simp [intOf]; omega)
            · have hge2 : (ws.length : Int) ≤ (j : Int) := by omega
              have hjl : j = ws.length := by omega
              have HTL : Hid (TabsOk mk ws ws.length) := by show TabsOk mk ws ws.length; rw [← hjl]; exact HTK.out
              have hrt2 := hrt.here.below hBq (Nat.le_refl _)
              have HRT : Hid (SlF w.heap.size wr (.slice ar rs.length cr) rs.length (2 * rs.length) (fun i => .int .i64 (y i))) := hrt2
              have SQ : Sl wr (.slice (some ⟨b, off, none⟩) ws.length cw) ws := ⟨_, _, rfl, .inr ⟨b, off, rfl, lbq, hCq.out⟩⟩
              have lq0 : w.heap.size < wr.heap.size := by omega
              have lqm : bm < wr.heap.size := by omega
              clear hrt2 hrt hR hA KA4 HM4 HC4 hjl HTK hmk hmb hfk
              go_wp2
              obtain ⟨wx, hwx⟩ : ∃ wx, wx = wr := ⟨_, rfl⟩
              subst hwx
              go_loopw [7] (fun u7 wr => ∃ i : Nat, i ≤ rs.length ∧ u7 = .int .i64 i ∧ RootsOk mk ws y i ∧ Below wx.heap.size wx wr) (fun u7 _ => rs.length - (intOf u7).toNat)
              case atStart => exact ⟨0, Nat.zero_le _, rfl, fun p hp => absurd hp (by omega), Below.refl _ _⟩
              case round =>
                obtain ⟨i, hi, rfl, hro, hB⟩ := hrel
                have HRO : Hid (RootsOk mk ws y i) := hro
                clear hro
                have KAr := has_below KAq hB lq0
                have hBr := below_next hBq hB
                by_cases hlt3 : i < rs.length
                · have hlt' : (i : Int) < (rs.length : Int) := by omega
                  have hrl' : (rs.length : Int) ≤ 24 := by omega
                  obtain ⟨br, offr, cap, hv, _, lbr, hcr⟩ := HRT.out.parts (k := 0) (by omega)
                  simp only [Value.slice.injEq] at hv
                  obtain ⟨rfl, _, rfl⟩ := hv
                  have hc1 : wr.cell? ⟨br, offr + i * 2, none⟩ = some (.int .i64 (y (2 * i))) := by rw [hB.cell (p := ⟨br, offr + i * 2, none⟩) lbr, Nat.mul_comm]; exact hcr (2 * i) (by omega)
                  have hd1 : wr.cell? ⟨br, offr + i * 2 + 1, none⟩ = some (.int .i64 (y (2 * i + 1))) := by rw [hB.cell (p := ⟨br, offr + i * 2 + 1, none⟩) lbr, Nat.mul_comm]; exact hcr (2 * i + 1) (by omega)
                  have HST : Hid (vOk (y (2 * i)) (y (2 * i + 1)) = true ∧ y (2 * i) ≠ 8 ∧ LeadsTo mk ws (y (2 * i)) (y (2 * i + 1)) 1 → RootsOk mk ws y (i + 1)) := fun g => roots_step HRO.out g
                  have HNO : Hid (RootsOk mk ws y rs.length → vOk (y (2 * i)) (y (2 * i + 1)) = true ∧ y (2 * i) ≠ 8 ∧ LeadsTo mk ws (y (2 * i)) (y (2 * i + 1)) 1) := fun g => g i hlt3
                  clear hcr HRT
                  generalize y (2 * i) = t at *
                  generalize y (2 * i + 1) = m at *
                  have hBv : Below wx.heap.size wx (wr.alloc (.cells #[.int .i64 t, .int .i64 m] 48)) := hB.alloc hB.size _
                  have KAv := has_below KAr ((Below.refl wr.heap.size wr).alloc (Nat.le_refl _) (.cells #[.int .i64 t, .int .i64 m] 48)) (Nat.lt_of_lt_of_le lq0 hB.size)
                  have l0r : w.heap.size < wr.heap.size := Nat.lt_of_lt_of_le lq0 hB.size
                  clear KAv
                  by_cases hv : vOk t m = true
                  · have HV : Hid (vOk t m = true) := hv
                    have hpos : isR t = true → 0 < m := fun g => by simp only [vOk, isR, decide_eq_true_eq] at hv g; omega
                    have HP : Hid (isR t = true → 0 < m) := hpos
                    clear hpos
                    by_cases h8 : t = 8
                    · have e8 : (t == 8) = true := by simpa using h8
                      have H8 : Hid (t = 8) := h8
                      clear h8
                      go_wp2_with (go_at_call 95; refine (specValOk_any t m _).mono ?_; rw [hv]; rintro e w6 ⟨rfl, b6⟩; have q6 : ∀ i, w6.cell? ⟨wr.heap.size, i, none⟩ = (#[.int .i64 t, .int .i64 m] : Array Value)[i]? := one_cells b6 (by simp))
                      go_ret
                      exact ⟨false, rfl, ⟨fun g => by simp at g, fun g => absurd H8.out (HNO.out (HGD.out.1 g).2.2.2).2.1⟩, below_next hBq (below_next hBv b6)⟩
                    · have e8 : (t == 8) = false := by simpa using h8
                      have H8 : Hid (t ≠ 8) := h8
                      clear h8
                      by_cases hL : LeadsTo mk ws t m 1
                      · have HNX : Hid (RootsOk mk ws y (i + 1)) := HST.out ⟨hv, H8.out, hL⟩
                        have HL : Hid (LeadsTo mk ws t m 1) := hL
                        clear hL
                        go_wp2_with (first | (go_at_call 95; refine (specValOk_any t m _).mono ?_; rw [hv]; rintro e w6 ⟨rfl, b6⟩; have q6 : ∀ i, w6.cell? ⟨wr.heap.size, i, none⟩ = (#[.int .i64 t, .int .i64 m] : Array Value)[i]? := one_cells b6 (by simp); have hB6 := below_next hBv b6; have KA6 := has_below KAq hB6 lq0) | (go_at_call 96; refine (l2Leads_at _ _ _ _ _ _ _ _ _ _ _ _ _ _ bm 0 _ mk t m 1 _ hn hw (SQ.below hB6) (Nat.lt_of_lt_of_le lqm hB6.size) (fun i hi => by rw [Nat.zero_add, hB6.cell (p := ⟨bm, i, none⟩) lqm]; exact hMq.out i hi) HM.out HP.out (.inl rfl)).mono ?_; rintro e w7 ⟨q, rfl, hq, b7⟩; obtain rfl : q = true := hq.2 HL.out; clear hq))
                        first
                          | (refine ⟨⟨i + 1, hlt3, by go_num, HNX.out, below_next hB6 b7⟩, by simp [intOf]; omega⟩)
                          | (go_roundw
                             case rel => exact ⟨i + 1, hlt3, by go_num, HNX.out, below_next hB6 b7⟩
                             case measure => simp [intOf]; omega)
                      · have HL : Hid (¬ LeadsTo mk ws t m 1) := hL
                        clear hL
                        go_wp2_with (first | (go_at_call 95; refine (specValOk_any t m _).mono ?_; rw [hv]; rintro e w6 ⟨rfl, b6⟩; have q6 : ∀ i, w6.cell? ⟨wr.heap.size, i, none⟩ = (#[.int .i64 t, .int .i64 m] : Array Value)[i]? := one_cells b6 (by simp); have hB6 := below_next hBv b6; have KA6 := has_below KAq hB6 lq0) | (go_at_call 96; refine (l2Leads_at _ _ _ _ _ _ _ _ _ _ _ _ _ _ bm 0 _ mk t m 1 _ hn hw (SQ.below hB6) (Nat.lt_of_lt_of_le lqm hB6.size) (fun i hi => by rw [Nat.zero_add, hB6.cell (p := ⟨bm, i, none⟩) lqm]; exact hMq.out i hi) HM.out HP.out (.inl rfl)).mono ?_; rintro e w7 ⟨q, rfl, hq, b7⟩; obtain rfl : q = false := (by cases q with | false => rfl | true => exact absurd (hq.1 rfl) HL.out); clear hq))
                        go_ret
                        exact ⟨false, rfl, ⟨fun g => by simp at g, fun g => absurd (HNO.out (HGD.out.1 g).2.2.2).2.2 HL.out⟩, below_next hBq (below_next hB6 b7)⟩
                  · rw [Bool.not_eq_true] at hv
                    go_wp2_with (go_at_call 95; refine (specValOk_any t m _).mono ?_; rw [hv]; rintro e w6 ⟨rfl, b6⟩)
                    go_ret
                    exact ⟨false, rfl, ⟨fun g => by simp at g, fun g => by have := (HNO.out (HGD.out.1 g).2.2.2).1; rw [hv] at this; simp at this⟩, below_next hBq (below_next hBv b6)⟩
                · have hil : i = rs.length := by omega
                  have HRL : Hid (RootsOk mk ws y rs.length) := by show RootsOk mk ws y rs.length; rw [← hil]; exact HRO.out
                  have hge3 : (rs.length : Int) ≤ (i : Int) := by omega
                  have HEND : Hid (ArenaGood ws semi toh top cyc scan old copied serial y rs.length) := HGD.out.2 ⟨HN3.out, HKW.out.objs, HTL.out, HRL.out⟩
                  clear hil
                  go_wp2
                  go_ret
                  first
                    | exact ⟨true, rfl, ⟨fun _ => HEND.out, fun _ => rfl⟩, hBr⟩
                    | exact Or.inr ⟨rfl, HEND.out, hBr⟩
  · go_wp2
    go_ret
    refine ⟨false, rfl, ⟨fun g => by simp at g, fun g => ?_⟩, B2⟩
    obtain ⟨L, O, t, _⟩ := HG.out.1 g
    exact absurd ⟨L, O, t⟩ hno
end Go.Proofs.YtmckcnmlhgpnhaaGreat
