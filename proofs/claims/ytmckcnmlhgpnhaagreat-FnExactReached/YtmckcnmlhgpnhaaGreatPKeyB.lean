/- - -/
import Derived.Test.YtmckcnmlhgpnhaaGreatPFindA
import Derived.Test.YtmckcnmlhgpnhaaGreatPImpC
import Derived.Test.YtmckcnmlhgpnhaaGreatPShelf
namespace Go.Proofs.YtmckcnmlhgpnhaaGreat
set_option maxRecDepth 20000
open Go.RowKit Go.Shelf
set_option linter.unusedSimpArgs false
set_option linter.unusedVariables false
def zme (r : Int) : Bool := decide ((97 <= r /\ r <= 122) \/ (65 <= r /\ r <= 90))
theorem znf (r : Int) (w : World) : Calls Tryz.prog 216 #[.int .i32 r] w fun e w' => e = .returned (.bool (zme r)) /\ w = w' := by
 by_cases h1 : 97 <= r <;> by_cases h2 : r <= 122 <;> by_cases h3 : 65 <= r <;> by_cases h4 : r <= 90
 all_goals
  have e1 : zme r = decide ((97 <= r /\ r <= 122) \/ (65 <= r /\ r <= 90)) := rfl
  simp only [h1, h2, h3, h4] at e1
  simp at e1
  rw [e1]
  clear e1
  go_enter Tryz.func216, Tryz.ntmps216
  go_wp2
  go_ret
  exact ⟨rfl, rfl⟩
theorem zhy (r c : Int) (q : Bool) (w : World) (hr : r = c) (hq : zme c = q) : Calls Tryz.prog 216 #[.int .i32 r] w fun e w' => e = .returned (.bool q) /\ w = w' := by
 subst hr hq
 exact znf r w
theorem zng (x : Int) (k r : Nat) (w : World) (hk : k <= 160) (hr : k % 8 = r) (x0 : 0 <= x) (x1 : x <= 1048576) :
 Calls Tryz.prog 215 #[.int .i64 x, .int .i64 (k : Int)] w fun e w' => e = .returned (.tuple #[.int .i64 (x + 2 + ((k / 8 : Nat) : Int)), .int .i64 (8 * (r : Int))]) /\ w = w' := by
 have hd : (k : Int).tdiv 8 = ((k / 8 : Nat) : Int) := by rw [Int.tdiv_eq_ediv_of_nonneg (by omega)]; omega
 have hm : (k : Int).tmod 8 = (r : Int) := by rw [Int.tmod_eq_emod_of_nonneg (by omega)]; omega
 have hd1 : ((k / 8 : Nat) : Int) <= 1048576 := by omega
 have hr1 : (r : Int) <= 7 := by omega
 generalize ((k / 8 : Nat) : Int) = d at *
 have hd0 : 0 <= d := by rw [<- hd]; exact Int.tdiv_nonneg (by omega) (by omega)
 go_enter Tryz.func215, Tryz.ntmps215
 go_wp2
 exact bodyPost_ret (v := .tuple #[.int .i64 (x + 2 + d), .int .i64 (8 * (r : Int))]) (by simp [results, Tryz.results215, go_sem]) rfl ⟨rfl, rfl⟩
theorem zhs {r : Int} (h : zme r = true) : Lib.runeCells r = [Value.int .u8 r] := by
 have h' := of_decide_eq_true h
 have e : Lib.encodeRuneZ r = [r] := by
  unfold Lib.encodeRuneZ
  first | (rw [if_pos (by omega)]) | simp [show 0 <= r by omega, show r < 128 by omega, show r <= 127 by omega]
 simp [Lib.runeCells, e]
theorem zro {ws : List Int} {p k : Nat} (h : k < zaf ws p) : Lib.byteCells ((zc4 ws p).take (k + 1)) = Lib.byteCells ((zc4 ws p).take k) ++ [Value.int .u8 (zdt ws p k : Int)] := by
 have hl : k < (zc4 ws p).length := by rw [zd6]; exact h
 rw [List.take_succ_eq_append_getElem hl, Lib.byteCells_append]
 have := zjk ws p k hl
 simp [Lib.byteCells, this]
theorem zpt {w : World} {o : Obj} {k : Nat} (h : k = w.heap.size) : (w.alloc o).heap[k]? = some o := by rw [h]; exact Go.Deep.blk_alloc_new _ _
theorem zrp {T t : TypeId} {B b : Nat} {bs : List Value} {r c : Int} {w : World} (h : Lib.BuilderAtF T t B b (.pointer (some ⟨b, 0, none⟩)) (bs ++ [.int .u8 r]) w) (e : r = c) : Lib.IsBuilderF T t B b (bs ++ [.int .u8 c]) w := by
 subst e
 exact Or.inr h
theorem zrq {T t : TypeId} {B b : Nat} {bs : List Value} {r c : Int} {w : World} (h : Lib.BuilderAtF T t B b (.pointer (some ⟨b, 0, none⟩)) (bs ++ Lib.runeCells r) w) (hc : Lib.runeCells c = [.int .u8 c]) (e : r = c) : Lib.IsBuilderF T t B b (bs ++ [.int .u8 c]) w := by
 subst e
 rw [hc] at h
 exact Or.inr h
set_option maxHeartbeats 1000000 in
theorem zrr (b off : Nat) (cw : Nat) (ws : List Int) (smz toh top : Int) (cyc : Bool) (sn old cpz sr : Int) (ar : Option Addr) (cr : Nat) (rs : List (Int × Int)) (x : Int) (p n : Nat) (w : World) (hx : x = p) (hb : b < w.heap.size) (hc : ∀ i, i < ws.length -> w.cell? ⟨b, off + i, none⟩ = some (.int .u64 (za ws i))) (hn : ws.length <= 1048576) (hw : zi ws) (hz : za ws (p + 1) = n) (hn1 : n <= 160) (h : p + 1 + (n + 7) / 8 < ws.length) :
 Calls Tryz.prog 212 #[(.agg #[.slice (some ⟨b, off, none⟩) ws.length cw, .int .i64 smz, .int .i64 toh, .int .i64 top, .bool cyc, .int .i64 sn, .int .i64 old, .int .i64 cpz, .int .i64 sr, .slice ar rs.length cr]), .int .i64 x] w fun e w' => e = .returned (.string (txt ws p)) /\ Below w.heap.size w w' := by
 have x0 : 0 <= x := by omega
 have x1 : x <= 1048576 := by omega
 have hN : zaf ws p = n := by unfold zaf; omega
 have HN : Hid (zaf ws p = n) := hN
 have HX : Hid (x = (p : Int)) := hx
 have j0 : 0 <= x + 1 := by omega
 have j1 : x + 1 < (ws.length : Int) := by omega
 have j2 : (x + 1).toNat = p + 1 := by omega
 have hc1 := hc (p + 1) (by omega)
 rw [hz] at hc1
 have HC : Hid (∀ i, i < ws.length -> w.cell? ⟨b, off + i, none⟩ = some (.int .u64 (za ws i))) := hc
 have hc1' := fun o => zt (o := o) hb hc1
 have hc2' := fun o1 o2 => zt (w := w.alloc o1) (o := o2) (by simp; omega) (hc1' o1)
 clear hx hz hc1 hc hN
 have hn' : (ws.length : Int) <= 1048576 := by omega
 have hn1' : (n : Int) <= 160 := by omega
 go_enter Tryz.func212, Tryz.ntmps212
 go_wp2_with fail
 refine (Tryz.Builder_Grow_fresh (w.heap.size + 1) (w.heap.size + 1) n _ (Nat.le_refl _) (zpt (by simp)) (by simp) (by omega)).mono ?_
 rintro e w1 ⟨rfl, h1, b1⟩
 have B1 : Below w.heap.size w w1 := (((Below.refl _ _).alloc (Nat.le_refl _) _).alloc (by simp) _).trans (b1.mono (by omega))
 have z1 : w.heap.size + 1 < w1.heap.size := by have := b1.size; simp at this; omega
 have k0 : w1.cell? ⟨w.heap.size, 0, none⟩ = some (.slice (some ⟨b, off, none⟩) ws.length cw) := by rw [b1.cell (p := ⟨w.heap.size, 0, none⟩) (by show w.heap.size < w.heap.size + 1; omega)]; simp [go_sem]
 have HI : Hid (Lib.IsBuilderF 245 5 (w.heap.size + 1) (w.heap.size + 1) (Lib.byteCells ((zc4 ws p).take 0)) w1) := Lib.IsBuilderF.of (Or.inr h1)
 have HB1 : Hid (Below w.heap.size w w1) := B1
 clear h1 b1 B1 hc1' hc2'
 go_wp2_with fail
 go_loopw [22] (fun u22 wr => ∃ k : Nat, k <= n /\ u22 = .int .i64 k /\ Lib.IsBuilderF 245 5 (w.heap.size + 1) (w.heap.size + 1) (Lib.byteCells ((zc4 ws p).take k)) wr /\ Below (w.heap.size + 1) w1 wr) (fun u22 _ => n - (intOf u22).toNat)
 case atStart => exact ⟨0, Nat.zero_le _, rfl, HI.out, Below.refl _ _⟩
 case round =>
  obtain ⟨k, hk, rfl, hI, hB⟩ := hrel
  have lwr := hB.size
  have k0r : wr.cell? ⟨w.heap.size, 0, none⟩ = some (.slice (some ⟨b, off, none⟩) ws.length cw) := by rw [hB.cell (p := ⟨w.heap.size, 0, none⟩) (by show w.heap.size < w.heap.size + 1; omega)]; exact k0
  have BW : Below w.heap.size w wr := HB1.out.trans (hB.mono (by omega))
  have hll : (Lib.byteCells ((zc4 ws p).take k)).length <= 160 := by rw [Lib.byteCells_length]; simp; omega
  by_cases hlt : k < n
  · have hlt' : (k : Int) < (n : Int) := by omega
    have q : wr.cell? ⟨b, off + (p + 2 + k / 8), none⟩ = some (.int .u64 (za ws (p + 2 + k / 8))) := by
     rw [BW.cell (p := ⟨b, off + (p + 2 + k / 8), none⟩) hb]
     exact HC.out _ (by omega)
    have hw1 := zu hw (p + 2 + k / 8)
    have hBy : zdt ws p k = (za ws (p + 2 + k / 8)).toNat / 2 ^ (8 * (k % 8)) % 256 := rfl
    have hBl := zfw ws p k
    have HT := zro (ws := ws) (p := p) (k := k) (by rw [HN.out]; exact hlt)
    have h8 : k % 8 = 0 \/ k % 8 = 1 \/ k % 8 = 2 \/ k % 8 = 3 \/ k % 8 = 4 \/ k % 8 = 5 \/ k % 8 = 6 \/ k % 8 = 7 := by omega
    have hdp : p + 2 + k / 8 < ws.length := by omega
    have HSP := fun r (hr : k % 8 = r) W => zng x k r W (by omega) hr x0 x1
    generalize za ws (p + 2 + k / 8) = Y at *
    generalize k / 8 = d at *
    obtain ⟨y0, y1⟩ := hw1
    have i0 : 0 <= x + 2 + (d : Int) := by omega
    have i1 : x + 2 + (d : Int) < (ws.length : Int) := by have := HX.out; omega
    have i2 : (x + 2 + (d : Int)).toNat = p + 2 + d := by have := HX.out; omega
    have i3 : (d : Int) <= 1048576 := by have := HX.out; omega
    have HTK : Hid (Lib.byteCells ((zc4 ws p).take (k + 1)) = Lib.byteCells ((zc4 ws p).take k) ++ [Value.int .u8 (zdt ws p k : Int)]) := HT
    obtain ⟨c, hcv⟩ : ∃ c : Nat, c = zdt ws p k := ⟨_, rfl⟩
    rw [<- hcv] at HTK hBy hBl
    clear HT hcv
    rcases h8 with e | e | e | e | e | e | e | e
    all_goals
     have HS1 := HSP _ e
     rw [e] at hBy
     simp only [Nat.reduceMul, Nat.reducePow] at hBy
     clear HSP e
     have hcY : ∀ z : Int, z = (c : Int) -> 0 <= z /\ z < 256 := fun z hz => by omega
     have HBY : Hid (c = _) := hBy
     have HCY : Hid (∀ z : Int, z = (c : Int) -> 0 <= z /\ z < 256) := hcY
     clear hBy hcY
     cases hl : zme (c : Int) with
     | true =>
       have HR := zhs hl
       have HRR : Hid (Lib.runeCells (c : Int) = [Value.int .u8 (c : Int)]) := HR
       clear HR
       go_wp2_with (first | (go_at_call 215; refine (HS1 _).mono ?_; rintro e w' ⟨rfl, rfl⟩) | (go_at_call 216; refine (zhy _ (c : Int) true _ (by have := HBY.out; omega) hl).mono ?_; rintro e w' ⟨rfl, rfl⟩) | (go_at_call 217; refine (Tryz.Builder_WriteRune_k (w.heap.size + 1) (w.heap.size + 1) _ _ (by omega) (by omega) _ hI (by omega) (by omega)).mono ?_; rintro e w2 ⟨rfl, h2, b2, _⟩))
       refine ⟨⟨k + 1, by omega, by go_num, ?_, hB.trans b2⟩, by simp [intOf]; omega⟩
       rw [HTK.out]
       refine zrq h2 HRR.out ?_
       have := HBY.out
       omega
     | false =>
       go_wp2_with (first | (go_at_call 215; refine (HS1 _).mono ?_; rintro e w' ⟨rfl, rfl⟩) | (go_at_call 216; refine (zhy _ (c : Int) false _ (by have := HBY.out; omega) hl).mono ?_; rintro e w' ⟨rfl, rfl⟩) | (go_at_call 218; refine (Tryz.Builder_WriteByte_k (w.heap.size + 1) (w.heap.size + 1) _ _ _ hI (by omega) (by omega)).mono ?_; rintro e w2 ⟨rfl, h2, b2, _⟩))
       refine ⟨⟨k + 1, by omega, by go_num, ?_, hB.trans b2⟩, by simp [intOf]; omega⟩
       rw [HTK.out]
       refine zrp h2 ?_
       have := HBY.out
       omega
  · obtain rfl : k = n := by omega
    have hfull : (zc4 ws p).take k = zc4 ws p := List.take_of_length_le (by rw [zd6, HN.out]; exact Nat.le_refl _)
    rw [hfull] at hI
    have hge : ¬ (k : Int) < (k : Int) := by omega
    go_wp2_with (go_at_call 219; refine (Tryz.Builder_String_any_k (w.heap.size + 1) (w.heap.size + 1) _ _ hI (by omega)).mono ?_; rintro e w2 ⟨rfl, _, b2, _⟩)
    go_ret
    exact ⟨rfl, BW.trans (b2.mono (by omega))⟩
open Go.RowKit
theorem zne (ws : List Int) (q : Nat) (w : World) (h1 : zaf ws q <= 160) :
 Calls Tryz.prog 213 #[.string (txt ws q)] w fun e w' => e = .returned (.int .i64 (zd0 ws q (zaf ws q))) /\ w' = w := by
 have hsz := zie ws q
 have h1' : (zaf ws q : Int) <= 160 := by omega
 go_enter Tryz.func213, Tryz.ntmps213
 go_wp2
 go_loopw [3, 7] (fun u3 u7 wr => ∃ k : Nat, k <= zaf ws q /\ u7 = .int .i64 k /\ u3 = .int .i64 (zd0 ws q k) /\ wr = w) (fun _ u7 _ => zaf ws q - (intOf u7).toNat)
 case atStart => exact ⟨0, Nat.zero_le _, rfl, rfl, rfl⟩
 case round =>
  obtain ⟨k, hk, rfl, rfl, rfl⟩ := hrel
  by_cases hlt : k < zaf ws q
  · have hlt' : (k : Int) < (zaf ws q : Int) := by omega
    obtain ⟨hh0, hh1⟩ := zid ws q k
    have hby := zfw ws q k
    go_wp2
    refine ⟨⟨k + 1, by omega, by go_num, ?_, trivial⟩, by simp [intOf]; omega⟩
    rw [zj1 hh0 hh1 hby (znr ws q k (by omega))]
    rfl
  · obtain rfl : k = zaf ws q := by omega
    go_wp2
    go_ret
    exact ⟨rfl, rfl⟩
theorem zs3 (t n : Int) (s : ByteArray) (w : World) (h : (t == 2) = true) :
 Calls Tryz.prog 211 #[.agg #[.int .i64 t, .int .i64 n, .string s]] w fun e w' => e = .returned (.int .i64 (n % 18446744073709551616 % 1000003)) /\ Below w.heap.size w w' := by
 go_enter Tryz.func211, Tryz.ntmps211
 go_wp2
 go_ret
 exact ⟨zbu (zld n), zd (Below.refl _ _)⟩
theorem zs4 (t n : Int) (s : ByteArray) (w : World) (h2 : (t == 2) = false) (h : (t == 7) = true) (n0 : 1 <= n) (n1 : n <= 20) :
 Calls Tryz.prog 211 #[.agg #[.int .i64 t, .int .i64 n, .string s]] w fun e w' => e = .returned (.int .i64 (n + 7)) /\ Below w.heap.size w w' := by
 go_enter Tryz.func211, Tryz.ntmps211
 go_wp2
 go_ret
 exact ⟨rfl, zd (Below.refl _ _)⟩
theorem zrn (t n : Int) (ws : List Int) (q : Nat) (w : World) (h2 : (t == 2) = false) (h7 : (t == 7) = false) (h : (t == 3) = true) (h1 : zaf ws q <= 160) :
 Calls Tryz.prog 211 #[.agg #[.int .i64 t, .int .i64 n, .string (txt ws q)]] w fun e w' => e = .returned (.int .i64 (zd0 ws q (zaf ws q))) /\ Below w.heap.size w w' := by
 go_enter Tryz.func211, Tryz.ntmps211
 go_wp2_with (go_at_call 213; refine (zne ws q _ h1).mono ?_; rintro e w1 ⟨rfl, rfl⟩)
 go_ret
 exact ⟨rfl, zd (Below.refl _ _)⟩
theorem zj6 (t n : Int) (s : ByteArray) (w : World) (h2 : (t == 2) = false) (h7 : (t == 7) = false) (h : (t == 3) = false) :
 Calls Tryz.prog 211 #[.agg #[.int .i64 t, .int .i64 n, .string s]] w fun e w' => e = .returned (.int .i64 n) /\ Below w.heap.size w w' := by
 go_enter Tryz.func211, Tryz.ntmps211
 go_wp2
 go_ret
 exact ⟨rfl, zd (Below.refl _ _)⟩
def kyN (ws : List Int) (t m : Int) : Int := if t = 3 then 0 else if t = 4 \/ t = 5 \/ t = 6 then rdN (za ws (zh ws m.toNat).toNat) else m
def kyS (ws : List Int) (t m : Int) : ByteArray := if t = 3 then txt ws (zh ws m.toNat).toNat else ⟨#[]⟩
theorem ztu (ws : List Int) (t m : Int) (w : World) (hv : vOk t m = true) (h0 : t ≠ 0) (h8 : t ≠ 8) (h9 : t ≠ 9) (hk : zdq ws t m) (hw : zi ws) :
 Calls Tryz.prog 211 #[.agg #[.int .i64 t, .int .i64 (kyN ws t m), .string (kyS ws t m)]] w fun e w' => e = .returned (.int .i64 (za8 ws t m)) /\ Below w.heap.size w w' := by
 simp only [vOk, decide_eq_true_eq] at hv
 by_cases h2 : t = 2
 · have e1 : kyN ws t m = m := by simp [kyN, h2]
   have e2 : za8 ws t m = m % 18446744073709551616 % 1000003 := by simp [za8, h2]
   rw [e1, e2]
   exact zs3 t m _ w (by simpa using h2)
 · by_cases h7 : t = 7
   · have e1 : kyN ws t m = m := by simp [kyN, h7]
     have e2 : za8 ws t m = m + 7 := by simp [za8, h7]
     rw [e1, e2]
     exact zs4 t m _ w (by simpa using h2) (by simpa using h7) (by omega) (by omega)
   · by_cases h3 : t = 3
     · have e1 : kyS ws t m = txt ws (zh ws m.toNat).toNat := by simp [kyS, h3]
       have e2 : za8 ws t m = zd0 ws (zh ws m.toNat).toNat (zaf ws (zh ws m.toNat).toNat) := by simp [za8, h3]
       rw [e1, e2]
       have hx := zu hw ((zh ws m.toNat).toNat + 1)
       exact zrn t _ ws _ w (by simpa using h2) (by simpa using h7) (by simpa using h3) (by have := (hk.2 h3).1; unfold zaf; omega)
     · by_cases h1 : t = 1
       · have e1 : kyN ws t m = m := by simp [kyN, h1]
         have e2 : za8 ws t m = m := by simp [za8, h1]
         rw [e1, e2]
         exact zj6 t m _ w (by simpa using h2) (by simpa using h7) (by simpa using h3)
       · have e1 : kyN ws t m = rdN (za ws (zh ws m.toNat).toNat) := by unfold kyN; rw [if_neg h3, if_pos (by omega)]
         have e2 : za8 ws t m = rdN (za ws (zh ws m.toNat).toNat) := by simp [za8, h1, h2, h7, h3]
         rw [e1, e2]
         exact zj6 t _ _ w (by simpa using h2) (by simpa using h7) (by simpa using h3)
end Go.Proofs.YtmckcnmlhgpnhaaGreat
