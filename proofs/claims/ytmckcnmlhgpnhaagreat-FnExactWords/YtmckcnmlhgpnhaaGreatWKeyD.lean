/- - -/
import Derived.Test.YtmckcnmlhgpnhaaGreatWShelf
import Derived.Test.YtmckcnmlhgpnhaaGreatWSvB
namespace Go.Proofs.YtmckcnmlhgpnhaaGreat
set_option maxRecDepth 20000
open Go.RowKit Go.Shelf
set_option linter.unusedSimpArgs false
set_option linter.unusedVariables false
def zny (r : Int) : Bool := decide ((97 <= r /\ r <= 122) \/ (65 <= r /\ r <= 90))
theorem zpe (r : Int) (w : World) : Calls Tryz.prog 216 #[.int .i32 r] w fun e w' => e = .returned (.bool (zny r)) /\ w = w' := by
 by_cases h1 : 97 <= r <;> by_cases h2 : r <= 122 <;> by_cases h3 : 65 <= r <;> by_cases h4 : r <= 90
 all_goals
  have e1 : zny r = decide ((97 <= r /\ r <= 122) \/ (65 <= r /\ r <= 90)) := rfl
  simp only [h1, h2, h3, h4] at e1
  simp at e1
  rw [e1]
  clear e1
  go_enter Tryz.func216, Tryz.ntmps216
  go_wp2
  go_ret
  exact ⟨rfl, rfl⟩
theorem ziy (r c : Int) (q : Bool) (w : World) (hr : r = c) (hq : zny c = q) : Calls Tryz.prog 216 #[.int .i32 r] w fun e w' => e = .returned (.bool q) /\ w = w' := by
 subst hr hq
 exact zpe r w
theorem zpf (x : Int) (k r : Nat) (w : World) (hk : k <= 160) (hr : k % 8 = r) (x0 : 0 <= x) (x1 : x <= 1048576) :
 Calls Tryz.prog 215 #[.int .i64 x, .int .i64 (k : Int)] w fun e w' => e = .returned (.tuple #[.int .i64 (x + 2 + ((k / 8 : Nat) : Int)), .int .i64 (8 * (r : Int))]) /\ w = w' := by
 have hd : (k : Int).tdiv 8 = ((k / 8 : Nat) : Int) := by rw [Int.tdiv_eq_ediv_of_nonneg (by omega)]; omega
 have hm : (k : Int).tmod 8 = (r : Int) := by rw [Int.tmod_eq_emod_of_nonneg (by omega)]; omega
 have hd1 : ((k / 8 : Nat) : Int) <= 1048576 := by omega
 have hr1 : (r : Int) <= 7 := by omega
 generalize ((k / 8 : Nat) : Int) = d at *
 have hd0 : 0 <= d := by rw [<- hd]; exact Int.tdiv_nonneg (by omega) (by omega)
 go_enter Tryz.func215, Tryz.ntmps215
 go_wp2
 exact bodyPost_ret (v := .tuple #[.int .i64 (x + 2 + d), .int .i64 (8 * (r : Int))]) (by simp [results, Tryz.results215, go_sem]) rfl ⟨rfl, rfl⟩
theorem zis {r : Int} (h : zny r = true) : Lib.runeCells r = [Value.int .u8 r] := by
 have h' := of_decide_eq_true h
 have e : Lib.encodeRuneZ r = [r] := by
  unfold Lib.encodeRuneZ
  first | (rw [if_pos (by omega)]) | simp [show 0 <= r by omega, show r < 128 by omega, show r <= 127 by omega]
 simp [Lib.runeCells, e]
theorem zt4 {ws : List Int} {p k : Nat} (h : k < zal ws p) : Lib.byteCells ((zdf ws p).take (k + 1)) = Lib.byteCells ((zdf ws p).take k) ++ [Value.int .u8 (zd3 ws p k : Int)] := by
 have hl : k < (zdf ws p).length := by rw [zei]; exact h
 rw [List.take_succ_eq_append_getElem hl, Lib.byteCells_append]
 have := zkv ws p k hl
 simp [Lib.byteCells, this]
theorem zr0 {w : World} {o : Obj} {k : Nat} (h : k = w.heap.size) : (w.alloc o).heap[k]? = some o := by rw [h]; exact Go.Deep.blk_alloc_new _ _
theorem zt5 {T t : TypeId} {B b : Nat} {bs : List Value} {r c : Int} {w : World} (h : Lib.BuilderAtF T t B b (.pointer (some ⟨b, 0, none⟩)) (bs ++ [.int .u8 r]) w) (e : r = c) : Lib.IsBuilderF T t B b (bs ++ [.int .u8 c]) w := by
 subst e
 exact Or.inr h
theorem zt6 {T t : TypeId} {B b : Nat} {bs : List Value} {r c : Int} {w : World} (h : Lib.BuilderAtF T t B b (.pointer (some ⟨b, 0, none⟩)) (bs ++ Lib.runeCells r) w) (hc : Lib.runeCells c = [.int .u8 c]) (e : r = c) : Lib.IsBuilderF T t B b (bs ++ [.int .u8 c]) w := by
 subst e
 rw [hc] at h
 exact Or.inr h
set_option maxHeartbeats 1000000 in
theorem zt7 (b off : Nat) (cw : Nat) (ws : List Int) (smz toh top : Int) (cyc : Bool) (sn old cpz sr : Int) (ar : Option Addr) (cr : Nat) (rs : List (Int × Int)) (x : Int) (p n : Nat) (w : World) (hx : x = p) (hb : b < w.heap.size) (hc : ∀ i, i < ws.length -> w.cell? ⟨b, off + i, none⟩ = some (.int .u64 (za ws i))) (hn : ws.length <= 1048576) (hw : zg ws) (hz : za ws (p + 1) = n) (hn1 : n <= 160) (h : p + 1 + (n + 7) / 8 < ws.length) :
 Calls Tryz.prog 212 #[(.agg #[.slice (some ⟨b, off, none⟩) ws.length cw, .int .i64 smz, .int .i64 toh, .int .i64 top, .bool cyc, .int .i64 sn, .int .i64 old, .int .i64 cpz, .int .i64 sr, .slice ar rs.length cr]), .int .i64 x] w fun e w' => e = .returned (.string (txt ws p)) /\ Below w.heap.size w w' := by
 have x0 : 0 <= x := by omega
 have x1 : x <= 1048576 := by omega
 have hN : zal ws p = n := by unfold zal; omega
 have HN : Hid (zal ws p = n) := hN
 have HX : Hid (x = (p : Int)) := hx
 have j0 : 0 <= x + 1 := by omega
 have j1 : x + 1 < (ws.length : Int) := by omega
 have j2 : (x + 1).toNat = p + 1 := by omega
 have hc1 := hc (p + 1) (by omega)
 rw [hz] at hc1
 have HC : Hid (∀ i, i < ws.length -> w.cell? ⟨b, off + i, none⟩ = some (.int .u64 (za ws i))) := hc
 have hc1' := fun o => zx (o := o) hb hc1
 have hc2' := fun o1 o2 => zx (w := w.alloc o1) (o := o2) (by simp; omega) (hc1' o1)
 clear hx hz hc1 hc hN
 have hn' : (ws.length : Int) <= 1048576 := by omega
 have hn1' : (n : Int) <= 160 := by omega
 go_enter Tryz.func212, Tryz.ntmps212
 go_wp2_with fail
 refine (Tryz.Builder_Grow_fresh (w.heap.size + 1) (w.heap.size + 1) n _ (Nat.le_refl _) (zr0 (by simp)) (by simp) (by omega)).mono ?_
 rintro e w1 ⟨rfl, h1, b1⟩
 have B1 : Below w.heap.size w w1 := (((Below.refl _ _).alloc (Nat.le_refl _) _).alloc (by simp) _).trans (b1.mono (by omega))
 have z1 : w.heap.size + 1 < w1.heap.size := by have := b1.size; simp at this; omega
 have k0 : w1.cell? ⟨w.heap.size, 0, none⟩ = some (.slice (some ⟨b, off, none⟩) ws.length cw) := by rw [b1.cell (p := ⟨w.heap.size, 0, none⟩) (by show w.heap.size < w.heap.size + 1; omega)]; simp [go_sem]
 have HI : Hid (Lib.IsBuilderF 245 5 (w.heap.size + 1) (w.heap.size + 1) (Lib.byteCells ((zdf ws p).take 0)) w1) := Lib.IsBuilderF.of (Or.inr h1)
 have HB1 : Hid (Below w.heap.size w w1) := B1
 clear h1 b1 B1 hc1' hc2'
 go_wp2_with fail
 go_loopw [22] (fun u22 wr => ∃ k : Nat, k <= n /\ u22 = .int .i64 k /\ Lib.IsBuilderF 245 5 (w.heap.size + 1) (w.heap.size + 1) (Lib.byteCells ((zdf ws p).take k)) wr /\ Below (w.heap.size + 1) w1 wr) (fun u22 _ => n - (intOf u22).toNat)
 case atStart => exact ⟨0, Nat.zero_le _, rfl, HI.out, Below.refl _ _⟩
 case round =>
  obtain ⟨k, hk, rfl, hI, hB⟩ := hrel
  have lwr := hB.size
  have k0r : wr.cell? ⟨w.heap.size, 0, none⟩ = some (.slice (some ⟨b, off, none⟩) ws.length cw) := by rw [hB.cell (p := ⟨w.heap.size, 0, none⟩) (by show w.heap.size < w.heap.size + 1; omega)]; exact k0
  have BW : Below w.heap.size w wr := HB1.out.trans (hB.mono (by omega))
  have hll : (Lib.byteCells ((zdf ws p).take k)).length <= 160 := by rw [Lib.byteCells_length]; simp; omega
  by_cases hlt : k < n
  · have hlt' : (k : Int) < (n : Int) := by omega
    have q : wr.cell? ⟨b, off + (p + 2 + k / 8), none⟩ = some (.int .u64 (za ws (p + 2 + k / 8))) := by
     rw [BW.cell (p := ⟨b, off + (p + 2 + k / 8), none⟩) hb]
     exact HC.out _ (by omega)
    have hw1 := zac hw (p + 2 + k / 8)
    have hBy : zd3 ws p k = (za ws (p + 2 + k / 8)).toNat / 2 ^ (8 * (k % 8)) % 256 := rfl
    have hBl := zgf ws p k
    have HT := zt4 (ws := ws) (p := p) (k := k) (by rw [HN.out]; exact hlt)
    have h8 : k % 8 = 0 \/ k % 8 = 1 \/ k % 8 = 2 \/ k % 8 = 3 \/ k % 8 = 4 \/ k % 8 = 5 \/ k % 8 = 6 \/ k % 8 = 7 := by omega
    have hdp : p + 2 + k / 8 < ws.length := by omega
    have HSP := fun r (hr : k % 8 = r) W => zpf x k r W (by omega) hr x0 x1
    generalize za ws (p + 2 + k / 8) = Y at *
    generalize k / 8 = d at *
    obtain ⟨y0, y1⟩ := hw1
    have i0 : 0 <= x + 2 + (d : Int) := by omega
    have i1 : x + 2 + (d : Int) < (ws.length : Int) := by have := HX.out; omega
    have i2 : (x + 2 + (d : Int)).toNat = p + 2 + d := by have := HX.out; omega
    have i3 : (d : Int) <= 1048576 := by have := HX.out; omega
    have HTK : Hid (Lib.byteCells ((zdf ws p).take (k + 1)) = Lib.byteCells ((zdf ws p).take k) ++ [Value.int .u8 (zd3 ws p k : Int)]) := HT
    obtain ⟨c, hcv⟩ : ∃ c : Nat, c = zd3 ws p k := ⟨_, rfl⟩
    rw [<- hcv] at HTK hBy hBl
    clear HT hcv
    rcases h8 with e | e | e | e | e | e | e | e
    all_goals
     have HS1 := HSP _ e
     rw [e] at hBy
     simp only [Nat.reduceMul, Nat.reducePow] at hBy
     clear HSP e
     have hcY : ∀ z : Int, z = (c : Int) -> 0 <= z /\ z < 256 := fun z hz => by omega
     have HBY : Hid (c = _) := hBy
     have HCY : Hid (∀ z : Int, z = (c : Int) -> 0 <= z /\ z < 256) := hcY
     clear hBy hcY
     cases hl : zny (c : Int) with
     | true =>
       have HR := zis hl
       have HRR : Hid (Lib.runeCells (c : Int) = [Value.int .u8 (c : Int)]) := HR
       clear HR
       go_wp2_with (first | (go_at_call 215; refine (HS1 _).mono ?_; rintro e w' ⟨rfl, rfl⟩) | (go_at_call 216; refine (ziy _ (c : Int) true _ (by have := HBY.out; omega) hl).mono ?_; rintro e w' ⟨rfl, rfl⟩) | (go_at_call 217; refine (Tryz.Builder_WriteRune_k (w.heap.size + 1) (w.heap.size + 1) _ _ (by omega) (by omega) _ hI (by omega) (by omega)).mono ?_; rintro e w2 ⟨rfl, h2, b2, _⟩))
       refine ⟨⟨k + 1, by omega, by go_num, ?_, hB.trans b2⟩, by simp [intOf]; omega⟩
       rw [HTK.out]
       refine zt6 h2 HRR.out ?_
       have := HBY.out
       omega
     | false =>
       go_wp2_with (first | (go_at_call 215; refine (HS1 _).mono ?_; rintro e w' ⟨rfl, rfl⟩) | (go_at_call 216; refine (ziy _ (c : Int) false _ (by have := HBY.out; omega) hl).mono ?_; rintro e w' ⟨rfl, rfl⟩) | (go_at_call 218; refine (Tryz.Builder_WriteByte_k (w.heap.size + 1) (w.heap.size + 1) _ _ _ hI (by omega) (by omega)).mono ?_; rintro e w2 ⟨rfl, h2, b2, _⟩))
       refine ⟨⟨k + 1, by omega, by go_num, ?_, hB.trans b2⟩, by simp [intOf]; omega⟩
       rw [HTK.out]
       refine zt5 h2 ?_
       have := HBY.out
       omega
  · obtain rfl : k = n := by omega
    have hfull : (zdf ws p).take k = zdf ws p := List.take_of_length_le (by rw [zei, HN.out]; exact Nat.le_refl _)
    rw [hfull] at hI
    have hge : ¬ (k : Int) < (k : Int) := by omega
    go_wp2_with (go_at_call 219; refine (Tryz.Builder_String_any_k (w.heap.size + 1) (w.heap.size + 1) _ _ hI (by omega)).mono ?_; rintro e w2 ⟨rfl, _, b2, _⟩)
    go_ret
    exact ⟨rfl, BW.trans (b2.mono (by omega))⟩
open Go.RowKit
theorem zpd (ws : List Int) (q : Nat) (w : World) (h1 : zal ws q <= 160) :
 Calls Tryz.prog 213 #[.string (txt ws q)] w fun e w' => e = .returned (.int .i64 (zea ws q (zal ws q))) /\ w' = w := by
 have hsz := zjh ws q
 have h1' : (zal ws q : Int) <= 160 := by omega
 go_enter Tryz.func213, Tryz.ntmps213
 go_wp2
 go_loopw [3, 7] (fun u3 u7 wr => ∃ k : Nat, k <= zal ws q /\ u7 = .int .i64 k /\ u3 = .int .i64 (zea ws q k) /\ wr = w) (fun _ u7 _ => zal ws q - (intOf u7).toNat)
 case atStart => exact ⟨0, Nat.zero_le _, rfl, rfl, rfl⟩
 case round =>
  obtain ⟨k, hk, rfl, rfl, rfl⟩ := hrel
  by_cases hlt : k < zal ws q
  · have hlt' : (k : Int) < (zal ws q : Int) := by omega
    obtain ⟨hh0, hh1⟩ := zjg ws q k
    have hby := zgf ws q k
    go_wp2
    refine ⟨⟨k + 1, by omega, by go_num, ?_, trivial⟩, by simp [intOf]; omega⟩
    rw [zlc hh0 hh1 hby (zpy ws q k (by omega))]
    rfl
  · obtain rfl : k = zal ws q := by omega
    go_wp2
    go_ret
    exact ⟨rfl, rfl⟩
theorem zvv (t n : Int) (s : ByteArray) (w : World) (h : (t == 2) = true) :
 Calls Tryz.prog 211 #[.agg #[.int .i64 t, .int .i64 n, .string s]] w fun e w' => e = .returned (.int .i64 (n % 18446744073709551616 % 1000003)) /\ Below w.heap.size w w' := by
 go_enter Tryz.func211, Tryz.ntmps211
 go_wp2
 go_ret
 exact ⟨zby (zmx n), zd (Below.refl _ _)⟩
theorem zvw (t n : Int) (s : ByteArray) (w : World) (h2 : (t == 2) = false) (h : (t == 7) = true) (n0 : 1 <= n) (n1 : n <= 20) :
 Calls Tryz.prog 211 #[.agg #[.int .i64 t, .int .i64 n, .string s]] w fun e w' => e = .returned (.int .i64 (n + 7)) /\ Below w.heap.size w w' := by
 go_enter Tryz.func211, Tryz.ntmps211
 go_wp2
 go_ret
 exact ⟨rfl, zd (Below.refl _ _)⟩
theorem zt3 (t n : Int) (ws : List Int) (q : Nat) (w : World) (h2 : (t == 2) = false) (h7 : (t == 7) = false) (h : (t == 3) = true) (h1 : zal ws q <= 160) :
 Calls Tryz.prog 211 #[.agg #[.int .i64 t, .int .i64 n, .string (txt ws q)]] w fun e w' => e = .returned (.int .i64 (zea ws q (zal ws q))) /\ Below w.heap.size w w' := by
 go_enter Tryz.func211, Tryz.ntmps211
 go_wp2_with (go_at_call 213; refine (zpd ws q _ h1).mono ?_; rintro e w1 ⟨rfl, rfl⟩)
 go_ret
 exact ⟨rfl, zd (Below.refl _ _)⟩
theorem zlh (t n : Int) (s : ByteArray) (w : World) (h2 : (t == 2) = false) (h7 : (t == 7) = false) (h : (t == 3) = false) :
 Calls Tryz.prog 211 #[.agg #[.int .i64 t, .int .i64 n, .string s]] w fun e w' => e = .returned (.int .i64 n) /\ Below w.heap.size w w' := by
 go_enter Tryz.func211, Tryz.ntmps211
 go_wp2
 go_ret
 exact ⟨rfl, zd (Below.refl _ _)⟩
def kyN (ws : List Int) (t m : Int) : Int := if t = 3 then 0 else if t = 4 \/ t = 5 \/ t = 6 then rdN (za ws (zi ws m.toNat).toNat) else m
def kyS (ws : List Int) (t m : Int) : ByteArray := if t = 3 then txt ws (zi ws m.toNat).toNat else ⟨#[]⟩
theorem zww (ws : List Int) (t m : Int) (w : World) (hv : vOk t m = true) (h0 : t ≠ 0) (h8 : t ≠ 8) (h9 : t ≠ 9) (hk : zd2 ws t m) (hw : zg ws) :
 Calls Tryz.prog 211 #[.agg #[.int .i64 t, .int .i64 (kyN ws t m), .string (kyS ws t m)]] w fun e w' => e = .returned (.int .i64 (zbi ws t m)) /\ Below w.heap.size w w' := by
 simp only [vOk, decide_eq_true_eq] at hv
 by_cases h2 : t = 2
 · have e1 : kyN ws t m = m := by simp [kyN, h2]
   have e2 : zbi ws t m = m % 18446744073709551616 % 1000003 := by simp [zbi, h2]
   rw [e1, e2]
   exact zvv t m _ w (by simpa using h2)
 · by_cases h7 : t = 7
   · have e1 : kyN ws t m = m := by simp [kyN, h7]
     have e2 : zbi ws t m = m + 7 := by simp [zbi, h7]
     rw [e1, e2]
     exact zvw t m _ w (by simpa using h2) (by simpa using h7) (by omega) (by omega)
   · by_cases h3 : t = 3
     · have e1 : kyS ws t m = txt ws (zi ws m.toNat).toNat := by simp [kyS, h3]
       have e2 : zbi ws t m = zea ws (zi ws m.toNat).toNat (zal ws (zi ws m.toNat).toNat) := by simp [zbi, h3]
       rw [e1, e2]
       have hx := zac hw ((zi ws m.toNat).toNat + 1)
       exact zt3 t _ ws _ w (by simpa using h2) (by simpa using h7) (by simpa using h3) (by have := (hk.2 h3).1; unfold zal; omega)
     · by_cases h1 : t = 1
       · have e1 : kyN ws t m = m := by simp [kyN, h1]
         have e2 : zbi ws t m = m := by simp [zbi, h1]
         rw [e1, e2]
         exact zlh t m _ w (by simpa using h2) (by simpa using h7) (by simpa using h3)
       · have e1 : kyN ws t m = rdN (za ws (zi ws m.toNat).toNat) := by unfold kyN; rw [if_neg h3, if_pos (by omega)]
         have e2 : zbi ws t m = rdN (za ws (zi ws m.toNat).toNat) := by simp [zbi, h1, h2, h7, h3]
         rw [e1, e2]
         exact zlh t _ _ w (by simpa using h2) (by simpa using h7) (by simpa using h3)
theorem zrx (b off cw : Nat) (ws : List Int) (smz toh top : Int) (cyc : Bool) (sn old cpz sr : Int) (ar : Option Addr) (cr : Nat) (rs : List (Int × Int)) (t m : Int) (w : World) (h3 : (t == 3) = false) (h4 : (t == 4) = false) (h5 : (t == 5) = false) (h6 : (t == 6) = false) :
 Calls Tryz.prog 201 #[(.agg #[.slice (some ⟨b, off, none⟩) ws.length cw, .int .i64 smz, .int .i64 toh, .int .i64 top, .bool cyc, .int .i64 sn, .int .i64 old, .int .i64 cpz, .int .i64 sr, .slice ar rs.length cr]), .agg #[.int .i64 t, .int .i64 m]] w fun e w' => e = .returned (.agg #[.int .i64 t, .int .i64 m, .string ⟨#[]⟩]) /\ Below w.heap.size w w' := by
 go_enter Tryz.func201, Tryz.ntmps201
 go_wp2
 refine bodyPost_ret (v := .agg #[.int .i64 t, .int .i64 m, .string ⟨#[]⟩]) (by simp [results, Tryz.results201, go_sem]) rfl ⟨rfl, ?_⟩
 exact zba (Below.refl _ _)
theorem zfr {W : World} {K c : Nat} {A : Array Value} (hne : c ≠ K) (h : ∀ i, W.cell? ⟨c, i, none⟩ = A[i]?) (u0 u1 u2 : Value) : ∀ i, (((W.setCell ⟨K, 0, none⟩ u0).setCell ⟨K, 1, none⟩ u1).setCell ⟨K, 2, none⟩ u2).cell? ⟨c, i, none⟩ = A[i]? := fun i => by
 rw [World.cell?_setCell_other _ _ _ _ (fun e => hne (congrArg Addr.block e).symm), World.cell?_setCell_other _ _ _ _ (fun e => hne (congrArg Addr.block e).symm), World.cell?_setCell_other _ _ _ _ (fun e => hne (congrArg Addr.block e).symm)]
 exact h i
set_option maxHeartbeats 2000000 in
theorem zry (b off cw : Nat) (ws : List Int) (smz toh top : Int) (cyc : Bool) (sn old cpz sr : Int) (ar : Option Addr) (cr : Nat) (rs : List (Int × Int)) (t m : Int) (P P' : Nat) (w : World) (h3 : (t == 3) = true) (hb : b < w.heap.size) (hc : ∀ i, i < ws.length -> w.cell? ⟨b, off + i, none⟩ = some (.int .u64 (za ws i))) (hn : ws.length <= 1048576) (hw : zg ws) (hP : m = P) (hP1 : P < ws.length) (hP' : zi ws P = P') (tP : zf0 ws P') :
 Calls Tryz.prog 201 #[(.agg #[.slice (some ⟨b, off, none⟩) ws.length cw, .int .i64 smz, .int .i64 toh, .int .i64 top, .bool cyc, .int .i64 sn, .int .i64 old, .int .i64 cpz, .int .i64 sr, .slice ar rs.length cr]), .agg #[.int .i64 t, .int .i64 m]] w fun e w' => e = .returned (.agg #[.int .i64 t, .int .i64 0, .string (txt ws P')]) /\ Below w.heap.size w w' := by
 have HP : Hid (m = (P : Int)) := hP
 have HP' : Hid (zi ws P = (P' : Int)) := hP'
 have wP := (zac hw (P' + 1)).1
 have nP : Hid (za ws (P' + 1) = (zal ws P' : Int)) := by show za ws (P' + 1) = (zal ws P' : Int); unfold zal; omega
 have n1P : zal ws P' <= 160 := by have := tP.1; unfold zal; omega
 have n2P := tP.2
 clear hP hP' wP tP
 have HC : ∀ W, Below (((w.alloc (.cells #[.slice (some ⟨b, off, none⟩) ws.length cw, .int .i64 smz, .int .i64 toh, .int .i64 top, .bool cyc, .int .i64 sn, .int .i64 old, .int .i64 cpz, .int .i64 sr, .slice ar rs.length cr] 30)).alloc (.cells #[.int .i64 t, .int .i64 m] 48)).alloc (.cells #[.int .i64 0, .int .i64 0, .string ⟨#[]⟩] 229)).heap.size (((w.alloc (.cells #[.slice (some ⟨b, off, none⟩) ws.length cw, .int .i64 smz, .int .i64 toh, .int .i64 top, .bool cyc, .int .i64 sn, .int .i64 old, .int .i64 cpz, .int .i64 sr, .slice ar rs.length cr] 30)).alloc (.cells #[.int .i64 t, .int .i64 m] 48)).alloc (.cells #[.int .i64 0, .int .i64 0, .string ⟨#[]⟩] 229)) W -> b < W.heap.size /\ ∀ i, i < ws.length -> W.cell? ⟨b, off + i, none⟩ = some (.int .u64 (za ws i)) := fun W hW => zh hb hc (zba hW)
 have KP : ∀ W, Below (((w.alloc (.cells #[.slice (some ⟨b, off, none⟩) ws.length cw, .int .i64 smz, .int .i64 toh, .int .i64 top, .bool cyc, .int .i64 sn, .int .i64 old, .int .i64 cpz, .int .i64 sr, .slice ar rs.length cr] 30)).alloc (.cells #[.int .i64 t, .int .i64 m] 48)).alloc (.cells #[.int .i64 0, .int .i64 0, .string ⟨#[]⟩] 229)).heap.size (((w.alloc (.cells #[.slice (some ⟨b, off, none⟩) ws.length cw, .int .i64 smz, .int .i64 toh, .int .i64 top, .bool cyc, .int .i64 sn, .int .i64 old, .int .i64 cpz, .int .i64 sr, .slice ar rs.length cr] 30)).alloc (.cells #[.int .i64 t, .int .i64 m] 48)).alloc (.cells #[.int .i64 0, .int .i64 0, .string ⟨#[]⟩] 229)) W -> (∀ i, W.cell? ⟨w.heap.size, i, none⟩ = (#[.slice (some ⟨b, off, none⟩) ws.length cw, .int .i64 smz, .int .i64 toh, .int .i64 top, .bool cyc, .int .i64 sn, .int .i64 old, .int .i64 cpz, .int .i64 sr, .slice ar rs.length cr] : Array Value)[i]?) /\ (∀ i, W.cell? ⟨w.heap.size + 1, i, none⟩ = (#[.int .i64 t, .int .i64 m] : Array Value)[i]?) := fun W hW => ⟨(za9 hW).1, (za9 hW).2.1⟩
 have KQ : ∀ (W : World) (u0 u1 u2 : Value), ((∀ i, W.cell? ⟨w.heap.size, i, none⟩ = (#[.slice (some ⟨b, off, none⟩) ws.length cw, .int .i64 smz, .int .i64 toh, .int .i64 top, .bool cyc, .int .i64 sn, .int .i64 old, .int .i64 cpz, .int .i64 sr, .slice ar rs.length cr] : Array Value)[i]?) /\ (∀ i, W.cell? ⟨w.heap.size + 1, i, none⟩ = (#[.int .i64 t, .int .i64 m] : Array Value)[i]?)) -> (fun W : World => (∀ i, W.cell? ⟨w.heap.size, i, none⟩ = (#[.slice (some ⟨b, off, none⟩) ws.length cw, .int .i64 smz, .int .i64 toh, .int .i64 top, .bool cyc, .int .i64 sn, .int .i64 old, .int .i64 cpz, .int .i64 sr, .slice ar rs.length cr] : Array Value)[i]?) /\ (∀ i, W.cell? ⟨w.heap.size + 1, i, none⟩ = (#[.int .i64 t, .int .i64 m] : Array Value)[i]?)) (((W.setCell ⟨w.heap.size + 1 + 1, 0, none⟩ u0).setCell ⟨w.heap.size + 1 + 1, 1, none⟩ u1).setCell ⟨w.heap.size + 1 + 1, 2, none⟩ u2) := fun W u0 u1 u2 h => ⟨zfr (by omega) h.1 u0 u1 u2, zfr (by omega) h.2 u0 u1 u2⟩
 have b1' := (Below.refl (((w.alloc (.cells #[.slice (some ⟨b, off, none⟩) ws.length cw, .int .i64 smz, .int .i64 toh, .int .i64 top, .bool cyc, .int .i64 sn, .int .i64 old, .int .i64 cpz, .int .i64 sr, .slice ar rs.length cr] 30)).alloc (.cells #[.int .i64 t, .int .i64 m] 48)).alloc (.cells #[.int .i64 0, .int .i64 0, .string ⟨#[]⟩] 229)).heap.size (((w.alloc (.cells #[.slice (some ⟨b, off, none⟩) ws.length cw, .int .i64 smz, .int .i64 toh, .int .i64 top, .bool cyc, .int .i64 sn, .int .i64 old, .int .i64 cpz, .int .i64 sr, .slice ar rs.length cr] 30)).alloc (.cells #[.int .i64 t, .int .i64 m] 48)).alloc (.cells #[.int .i64 0, .int .i64 0, .string ⟨#[]⟩] 229))).drew
 clear hc
 go_enter Tryz.func201, Tryz.ntmps201
 go_wp2
 go_region_held3 (fun W => (∀ i, W.cell? ⟨w.heap.size, i, none⟩ = (#[.slice (some ⟨b, off, none⟩) ws.length cw, .int .i64 smz, .int .i64 toh, .int .i64 top, .bool cyc, .int .i64 sn, .int .i64 old, .int .i64 cpz, .int .i64 sr, .slice ar rs.length cr] : Array Value)[i]?) /\ (∀ i, W.cell? ⟨w.heap.size + 1, i, none⟩ = (#[.int .i64 t, .int .i64 m] : Array Value)[i]?)) (first | assumption | exact KP _ b1' | exact KP _ (by assumption) | exact KQ _ _ _ _ (by assumption)) (first | (go_at_call 120; refine (zfh _ _ _ _ _ _ _ _ _ _ _ _ _ _ _ t m P _ HP.out (HC _ b1').1 (HC _ b1').2 hn hw hP1).mono ?_; rintro e wo ⟨rfl, hb⟩; have hBo := zc (w := (((w.alloc (.cells #[.slice (some ⟨b, off, none⟩) ws.length cw, .int .i64 smz, .int .i64 toh, .int .i64 top, .bool cyc, .int .i64 sn, .int .i64 old, .int .i64 cpz, .int .i64 sr, .slice ar rs.length cr] 30)).alloc (.cells #[.int .i64 t, .int .i64 m] 48)).alloc (.cells #[.int .i64 0, .int .i64 0, .string ⟨#[]⟩] 229))) b1' hb; clear hb) | (go_at_call 212; refine (zt7 _ _ _ _ _ _ _ _ _ _ _ _ _ _ _ _ P' (zal ws P') _ HP'.out (HC _ hBo).1 (HC _ hBo).2 hn hw nP.out n1P n2P).mono ?_; rintro e wt ⟨rfl, hb⟩; have hBt := zc (w := (((w.alloc (.cells #[.slice (some ⟨b, off, none⟩) ws.length cw, .int .i64 smz, .int .i64 toh, .int .i64 top, .bool cyc, .int .i64 sn, .int .i64 old, .int .i64 cpz, .int .i64 sr, .slice ar rs.length cr] 30)).alloc (.cells #[.int .i64 t, .int .i64 m] 48)).alloc (.cells #[.int .i64 0, .int .i64 0, .string ⟨#[]⟩] 229))) hBo hb; obtain ⟨_, _, kt⟩ := za9 hBt; have ft : ∀ i, wt.frozen? ⟨w.heap.size + 1 + 1, i, none⟩ = false := fun i => (by rw [(zo hBt).2 _ _ (by simp)]; simp [go_sem]); clear hb))
 all_goals
  go_wp2
  have p0 : (wt.cell? ⟨w.heap.size + 1 + 1, 0, none⟩).isSome = true := by rw [kt 0]; rfl
  have p1 : (wt.cell? ⟨w.heap.size + 1 + 1, 1, none⟩).isSome = true := by rw [kt 1]; rfl
  have p2 : (wt.cell? ⟨w.heap.size + 1 + 1, 2, none⟩).isSome = true := by rw [kt 2]; rfl
  refine bodyPost_ret (v := .agg #[.int .i64 t, .int .i64 0, .string (txt ws P')]) (by simp [results, Tryz.results201, go_sem, p0, p1, p2]) rfl ⟨rfl, ?_⟩
  have hle : w.heap.size <= w.heap.size + 1 + 1 := by omega
  exact (((zba hBt).setCell (p := ⟨w.heap.size + 1 + 1, 0, none⟩) hle _).setCell (p := ⟨w.heap.size + 1 + 1, 1, none⟩) hle _).setCell (p := ⟨w.heap.size + 1 + 1, 2, none⟩) hle _
set_option maxHeartbeats 2000000 in
theorem zrz (b off cw : Nat) (ws : List Int) (smz toh top : Int) (cyc : Bool) (sn old cpz sr : Int) (ar : Option Addr) (cr : Nat) (rs : List (Int × Int)) (t m : Int) (P P' : Nat) (w : World) (h3 : (t == 3) = false) (h456 : (t == 4) = true \/ (t == 4) = false /\ (t == 5) = true \/ (t == 4) = false /\ (t == 5) = false /\ (t == 6) = true) (hb : b < w.heap.size) (hc : ∀ i, i < ws.length -> w.cell? ⟨b, off + i, none⟩ = some (.int .u64 (za ws i))) (hn : ws.length <= 1048576) (hw : zg ws) (hP : m = P) (hP1 : P < ws.length) (hP' : zi ws P = P') (hP2 : P' < ws.length) :
 Calls Tryz.prog 201 #[(.agg #[.slice (some ⟨b, off, none⟩) ws.length cw, .int .i64 smz, .int .i64 toh, .int .i64 top, .bool cyc, .int .i64 sn, .int .i64 old, .int .i64 cpz, .int .i64 sr, .slice ar rs.length cr]), .agg #[.int .i64 t, .int .i64 m]] w fun e w' => e = .returned (.agg #[.int .i64 t, .int .i64 (rdN (za ws P')), .string ⟨#[]⟩]) /\ Below w.heap.size w w' := by
 have HP : Hid (m = (P : Int)) := hP
 have HP' : Hid (zi ws P = (P' : Int)) := hP'
 have hfs := zfw
 clear hP hP'
 have HC : ∀ W, Below (((w.alloc (.cells #[.slice (some ⟨b, off, none⟩) ws.length cw, .int .i64 smz, .int .i64 toh, .int .i64 top, .bool cyc, .int .i64 sn, .int .i64 old, .int .i64 cpz, .int .i64 sr, .slice ar rs.length cr] 30)).alloc (.cells #[.int .i64 t, .int .i64 m] 48)).alloc (.cells #[.int .i64 0, .int .i64 0, .string ⟨#[]⟩] 229)).heap.size (((w.alloc (.cells #[.slice (some ⟨b, off, none⟩) ws.length cw, .int .i64 smz, .int .i64 toh, .int .i64 top, .bool cyc, .int .i64 sn, .int .i64 old, .int .i64 cpz, .int .i64 sr, .slice ar rs.length cr] 30)).alloc (.cells #[.int .i64 t, .int .i64 m] 48)).alloc (.cells #[.int .i64 0, .int .i64 0, .string ⟨#[]⟩] 229)) W -> b < W.heap.size /\ ∀ i, i < ws.length -> W.cell? ⟨b, off + i, none⟩ = some (.int .u64 (za ws i)) := fun W hW => zh hb hc (zba hW)
 have KP : ∀ W, Below (((w.alloc (.cells #[.slice (some ⟨b, off, none⟩) ws.length cw, .int .i64 smz, .int .i64 toh, .int .i64 top, .bool cyc, .int .i64 sn, .int .i64 old, .int .i64 cpz, .int .i64 sr, .slice ar rs.length cr] 30)).alloc (.cells #[.int .i64 t, .int .i64 m] 48)).alloc (.cells #[.int .i64 0, .int .i64 0, .string ⟨#[]⟩] 229)).heap.size (((w.alloc (.cells #[.slice (some ⟨b, off, none⟩) ws.length cw, .int .i64 smz, .int .i64 toh, .int .i64 top, .bool cyc, .int .i64 sn, .int .i64 old, .int .i64 cpz, .int .i64 sr, .slice ar rs.length cr] 30)).alloc (.cells #[.int .i64 t, .int .i64 m] 48)).alloc (.cells #[.int .i64 0, .int .i64 0, .string ⟨#[]⟩] 229)) W -> (∀ i, W.cell? ⟨w.heap.size, i, none⟩ = (#[.slice (some ⟨b, off, none⟩) ws.length cw, .int .i64 smz, .int .i64 toh, .int .i64 top, .bool cyc, .int .i64 sn, .int .i64 old, .int .i64 cpz, .int .i64 sr, .slice ar rs.length cr] : Array Value)[i]?) /\ (∀ i, W.cell? ⟨w.heap.size + 1, i, none⟩ = (#[.int .i64 t, .int .i64 m] : Array Value)[i]?) := fun W hW => ⟨(za9 hW).1, (za9 hW).2.1⟩
 have KQ : ∀ (W : World) (u0 u1 u2 : Value), ((∀ i, W.cell? ⟨w.heap.size, i, none⟩ = (#[.slice (some ⟨b, off, none⟩) ws.length cw, .int .i64 smz, .int .i64 toh, .int .i64 top, .bool cyc, .int .i64 sn, .int .i64 old, .int .i64 cpz, .int .i64 sr, .slice ar rs.length cr] : Array Value)[i]?) /\ (∀ i, W.cell? ⟨w.heap.size + 1, i, none⟩ = (#[.int .i64 t, .int .i64 m] : Array Value)[i]?)) -> (fun W : World => (∀ i, W.cell? ⟨w.heap.size, i, none⟩ = (#[.slice (some ⟨b, off, none⟩) ws.length cw, .int .i64 smz, .int .i64 toh, .int .i64 top, .bool cyc, .int .i64 sn, .int .i64 old, .int .i64 cpz, .int .i64 sr, .slice ar rs.length cr] : Array Value)[i]?) /\ (∀ i, W.cell? ⟨w.heap.size + 1, i, none⟩ = (#[.int .i64 t, .int .i64 m] : Array Value)[i]?)) (((W.setCell ⟨w.heap.size + 1 + 1, 0, none⟩ u0).setCell ⟨w.heap.size + 1 + 1, 1, none⟩ u1).setCell ⟨w.heap.size + 1 + 1, 2, none⟩ u2) := fun W u0 u1 u2 h => ⟨zfr (by omega) h.1 u0 u1 u2, zfr (by omega) h.2 u0 u1 u2⟩
 have b1' := (Below.refl (((w.alloc (.cells #[.slice (some ⟨b, off, none⟩) ws.length cw, .int .i64 smz, .int .i64 toh, .int .i64 top, .bool cyc, .int .i64 sn, .int .i64 old, .int .i64 cpz, .int .i64 sr, .slice ar rs.length cr] 30)).alloc (.cells #[.int .i64 t, .int .i64 m] 48)).alloc (.cells #[.int .i64 0, .int .i64 0, .string ⟨#[]⟩] 229)).heap.size (((w.alloc (.cells #[.slice (some ⟨b, off, none⟩) ws.length cw, .int .i64 smz, .int .i64 toh, .int .i64 top, .bool cyc, .int .i64 sn, .int .i64 old, .int .i64 cpz, .int .i64 sr, .slice ar rs.length cr] 30)).alloc (.cells #[.int .i64 t, .int .i64 m] 48)).alloc (.cells #[.int .i64 0, .int .i64 0, .string ⟨#[]⟩] 229))).drew
 clear hc
 rcases h456 with h4 | ⟨h4, h5⟩ | ⟨h4, h5, h6⟩
 all_goals
  go_enter Tryz.func201, Tryz.ntmps201
  go_wp2
  go_region_held3 (fun W => (∀ i, W.cell? ⟨w.heap.size, i, none⟩ = (#[.slice (some ⟨b, off, none⟩) ws.length cw, .int .i64 smz, .int .i64 toh, .int .i64 top, .bool cyc, .int .i64 sn, .int .i64 old, .int .i64 cpz, .int .i64 sr, .slice ar rs.length cr] : Array Value)[i]?) /\ (∀ i, W.cell? ⟨w.heap.size + 1, i, none⟩ = (#[.int .i64 t, .int .i64 m] : Array Value)[i]?)) (first | assumption | exact KP _ b1' | exact KP _ (by assumption) | exact KQ _ _ _ _ (by assumption)) (first | (go_at_call 120; refine (zfh _ _ _ _ _ _ _ _ _ _ _ _ _ _ _ t m P _ HP.out (HC _ b1').1 (HC _ b1').2 hn hw hP1).mono ?_; rintro e wo ⟨rfl, hb⟩; have hBo := zc (w := (((w.alloc (.cells #[.slice (some ⟨b, off, none⟩) ws.length cw, .int .i64 smz, .int .i64 toh, .int .i64 top, .bool cyc, .int .i64 sn, .int .i64 old, .int .i64 cpz, .int .i64 sr, .slice ar rs.length cr] 30)).alloc (.cells #[.int .i64 t, .int .i64 m] 48)).alloc (.cells #[.int .i64 0, .int .i64 0, .string ⟨#[]⟩] 229))) b1' hb; clear hb) | (go_at_call 81; refine (zc3 _ _ _ _ _ _ _ _ _ _ _ _ _ _ _ P' _ HP'.out (zcq (HC _ hBo).1 (HC _ hBo).2) hn hw hP2).mono ?_; rintro e wt ⟨rfl, hb⟩; have hBt := zc (w := (((w.alloc (.cells #[.slice (some ⟨b, off, none⟩) ws.length cw, .int .i64 smz, .int .i64 toh, .int .i64 top, .bool cyc, .int .i64 sn, .int .i64 old, .int .i64 cpz, .int .i64 sr, .slice ar rs.length cr] 30)).alloc (.cells #[.int .i64 t, .int .i64 m] 48)).alloc (.cells #[.int .i64 0, .int .i64 0, .string ⟨#[]⟩] 229))) hBo hb; obtain ⟨_, _, kt⟩ := za9 hBt; have ft : ∀ i, wt.frozen? ⟨w.heap.size + 1 + 1, i, none⟩ = false := fun i => (by rw [(zo hBt).2 _ _ (by simp)]; simp [go_sem]); clear hb))
  all_goals
   go_wp2
   have p0 : (wt.cell? ⟨w.heap.size + 1 + 1, 0, none⟩).isSome = true := by rw [kt 0]; rfl
   have p1 : (wt.cell? ⟨w.heap.size + 1 + 1, 1, none⟩).isSome = true := by rw [kt 1]; rfl
   have p2 : (wt.cell? ⟨w.heap.size + 1 + 1, 2, none⟩).isSome = true := by rw [kt 2]; rfl
   refine bodyPost_ret (v := .agg #[.int .i64 t, .int .i64 (rdN (za ws P')), .string ⟨#[]⟩]) (by simp [results, Tryz.results201, go_sem, p0, p1, p2]) rfl ⟨rfl, ?_⟩
   have hle : w.heap.size <= w.heap.size + 1 + 1 := by omega
   exact (((zba hBt).setCell (p := ⟨w.heap.size + 1 + 1, 0, none⟩) hle _).setCell (p := ⟨w.heap.size + 1 + 1, 1, none⟩) hle _).setCell (p := ⟨w.heap.size + 1 + 1, 2, none⟩) hle _
theorem zvu (b off cw : Nat) (ws : List Int) (smz toh top : Int) (cyc : Bool) (sn old cpz sr : Int) (ar : Option Addr) (cr : Nat) (rs : List (Int × Int)) (t m : Int) (w : World) (hb : b < w.heap.size) (hc : ∀ i, i < ws.length -> w.cell? ⟨b, off + i, none⟩ = some (.int .u64 (za ws i))) (hn : ws.length <= 1048576) (hw : zg ws) (hk : zd2 ws t m) :
 Calls Tryz.prog 201 #[(.agg #[.slice (some ⟨b, off, none⟩) ws.length cw, .int .i64 smz, .int .i64 toh, .int .i64 top, .bool cyc, .int .i64 sn, .int .i64 old, .int .i64 cpz, .int .i64 sr, .slice ar rs.length cr]), .agg #[.int .i64 t, .int .i64 m]] w fun e w' => e = .returned (.agg #[.int .i64 t, .int .i64 (kyN ws t m), .string (kyS ws t m)]) /\ Below w.heap.size w w' := by
 by_cases h3 : t = 3
 · obtain ⟨a0, a1, a2, a3⟩ := hk.1 (by simp [isR, h3])
   have e1 : kyN ws t m = 0 := by simp [kyN, h3]
   have e2 : kyS ws t m = txt ws (zi ws m.toNat).toNat := by simp [kyS, h3]
   rw [e1, e2]
   exact zry b off cw ws smz toh top cyc sn old cpz sr ar cr rs t m m.toNat (zi ws m.toNat).toNat w (by simpa using h3) hb hc hn hw (by omega) (by omega) (by omega) (hk.2 h3)
 · have e3 : (t == 3) = false := by simpa using h3
   have e2 : kyS ws t m = ⟨#[]⟩ := by simp [kyS, h3]
   by_cases h456 : t = 4 \/ t = 5 \/ t = 6
   · obtain ⟨a0, a1, a2, a3⟩ := hk.1 (by simp only [isR, decide_eq_true_eq]; omega)
     have e1 : kyN ws t m = rdN (za ws (zi ws m.toNat).toNat) := by simp [kyN, h3, h456]
     rw [e1, e2]
     exact zrz b off cw ws smz toh top cyc sn old cpz sr ar cr rs t m m.toNat (zi ws m.toNat).toNat w e3 (by rcases h456 with rfl | rfl | rfl <;> simp) hb hc hn hw (by omega) (by omega) (by omega) (by omega)
   · have e1 : kyN ws t m = m := by simp [kyN, h3, h456]
     rw [e1, e2]
     exact zrx b off cw ws smz toh top cyc sn old cpz sr ar cr rs t m w e3 (by simp; omega) (by simp; omega) (by simp; omega)
end Go.Proofs.YtmckcnmlhgpnhaaGreat
