/- - -/
import Derived.Laws.IdiomStrings
import Derived.Test.YtmckcnmlhgpnhaaGreatWArnA
import Derived.Deep.CutBlock
import Derived.Test.YtmckcnmlhgpnhaaGreatWLeadsB
namespace Go.Proofs.YtmckcnmlhgpnhaaGreat
set_option maxRecDepth 20000
open Go.RowKit
set_option linter.unusedSimpArgs false
set_option linter.unusedVariables false
def zd3 (ws : List Int) (p i : Nat) : Nat := (za ws (p + 2 + i / 8)).toNat / 2 ^ (8 * (i % 8)) % 256
def zal (ws : List Int) (p : Nat) : Nat := (za ws (p + 1)).toNat
def zdf (ws : List Int) (p : Nat) : List UInt8 := (List.range (zal ws p)).map fun i => UInt8.ofNat (zd3 ws p i)
def txt (ws : List Int) (p : Nat) : ByteArray := ⟨(zdf ws p).toArray⟩
theorem zgf (ws : List Int) (p i : Nat) : zd3 ws p i < 256 := Nat.mod_lt _ (by decide)
theorem zei (ws : List Int) (p : Nat) : (zdf ws p).length = zal ws p := by simp [zdf]
theorem zkv (ws : List Int) (p j : Nat) (hj : j < (zdf ws p).length) : ((zdf ws p)[j].toNat : Int) = zd3 ws p j := by
 simp [zdf, Nat.mod_eq_of_lt (zgf ws p j)]
theorem zxq : (Tryz.prog.info? 5).map (fun i => (i.zero, i.size, i.bytes)) = some (some (.int .u8 0), 1, 1) := by kernel_rfl
theorem zdk {wr w1 : World} {t : TypeId} {n k : Nat} {f : Nat -> Nat} {v : Int} (hR : wr.rowIs w1.heap.size t n (fun j => if j < k then .int .u8 (f j) else .int .u8 0)) (hB : Below w1.heap.size w1 wr) (e : v = (f k : Int)) :
 (wr.setCell ⟨w1.heap.size, k, none⟩ (.int .u8 v)).rowIs w1.heap.size t n (fun j => if j < k + 1 then .int .u8 (f j) else .int .u8 0) /\ Below w1.heap.size w1 (wr.setCell ⟨w1.heap.size, k, none⟩ (.int .u8 v)) := by
 refine ⟨(hR.set k _).congr fun i _ => ?_, hB.setCell (Nat.le_refl _) _⟩
 by_cases h1 : i = k
 · subst h1; simp [e]
 · by_cases h2 : i < k
   · simp [h1, h2, show i < k + 1 by omega]
   · simp [h1, h2, show ¬ i < k + 1 by omega]
theorem zhx (b off : Nat) (cw : Nat) (ws : List Int) (smz toh top : Int) (cyc : Bool) (sn old cpz sr : Int) (ar : Option Addr) (cr : Nat) (rs : List (Int × Int)) (x : Int) (p n : Nat) (w : World) (hx : x = p) (hs : Sl w (.slice (some ⟨b, off, none⟩) ws.length cw) ws) (hb : b < w.heap.size) (hc : ∀ i, i < ws.length -> w.cell? ⟨b, off + i, none⟩ = some (.int .u64 (za ws i))) (hn : ws.length <= 1048576) (hw : zg ws) (hz : za ws (p + 1) = n) (hn1 : n <= 160) (h : p + 1 + (n + 7) / 8 < ws.length) :
 Calls Tryz.prog 194 #[.agg #[.slice (some ⟨b, off, none⟩) ws.length cw, .int .i64 smz, .int .i64 toh, .int .i64 top, .bool cyc, .int .i64 sn, .int .i64 old, .int .i64 cpz, .int .i64 sr, .slice ar rs.length cr], .int .i64 x] w fun e w' => e = .returned (.string (txt ws p)) /\ Below w.heap.size w w' := by
 have x0 : 0 <= x := by omega
 have x1 : x <= 1048576 := by omega
 have hN : zal ws p = n := by unfold zal; omega
 have HX : Hid (x = (p : Int)) := hx
 have HZ : Hid (wrap64 (za ws (p + 1)) = (n : Int)) := by show wrap64 (za ws (p + 1)) = (n : Int); rw [hz]; exact za8 (by omega) (by omega)
 clear hx hz
 have hn' : (ws.length : Int) <= 1048576 := by omega
 have hn1' : (n : Int) <= 160 := by omega
 have hmk := fun (w : World) => run_make_row' (P := Tryz.prog) 54 5 (.int .u8 0) 1 Tryz.underlying54 zxq rfl .i64 .i64 n (by omega) (by omega) w
 go_enter Tryz.func194, Tryz.ntmps194
 go_wp2_with fail
 refine (zct _ _ _ _ _ _ _ _ _ _ _ _ _ _ _ _ (n : Int) p 1 _ HX.out rfl HZ.out (zas hs _) hn (by omega)).mono ?_
 rintro e w1 ⟨rfl, b1⟩
 obtain ⟨k0, k1, k2, k3, k4, k5, k6, k7, k8, k9⟩ := zbx b1
 have z1 := zq b1
 have B1 := zd b1
 clear b1 k1 k2 k3 k4 k5 k6 k7 k8 k9
 go_wp2
 go_loopw [7] (fun u7 wr => ∃ k : Nat, k <= n /\ u7 = .int .i64 k /\ wr.rowIs w1.heap.size 5 n (fun j => if j < k then .int .u8 (zd3 ws p j) else .int .u8 0) /\ Below w1.heap.size w1 wr) (fun u7 _ => n - (intOf u7).toNat)
 case atStart => exact ⟨0, Nat.zero_le _, rfl, (World.rowIs_made w1 (.int .u8 0) n 5).congr (fun i _ => by simp), (Below.refl _ _).alloc (Nat.le_refl _) _⟩
 case round =>
  obtain ⟨k, hk, rfl, hR, hB⟩ := hrel
  have lwr := hB.size
  have k0r : wr.cell? ⟨w.heap.size, 0, none⟩ = some (.slice (some ⟨b, off, none⟩) ws.length cw) := by rw [hB.cell (p := ⟨w.heap.size, 0, none⟩) z1]; exact k0
  by_cases hlt : k < n
  · have hlt' : (k : Int) < (n : Int) := by omega
    have q : wr.cell? ⟨b, off + (p + 2 + k / 8), none⟩ = some (.int .u64 (za ws (p + 2 + k / 8))) := by
     rw [hB.cell (p := ⟨b, off + (p + 2 + k / 8), none⟩) (by show b < w1.heap.size; omega), B1.cell (p := ⟨b, off + (p + 2 + k / 8), none⟩) hb]
     exact hc _ (by omega)
    have hw1 := zac hw (p + 2 + k / 8)
    have hd : (k : Int).tdiv 8 = ((k / 8 : Nat) : Int) := by rw [Int.tdiv_eq_ediv_of_nonneg (by omega)]; omega
    have hm := Int.tmod_eq_emod_of_nonneg (a := (k : Int)) (b := 8) (by omega)
    have hBy : zd3 ws p k = (za ws (p + 2 + k / 8)).toNat / 2 ^ (8 * (k % 8)) % 256 := rfl
    have h8 : k % 8 = 0 \/ k % 8 = 1 \/ k % 8 = 2 \/ k % 8 = 3 \/ k % 8 = 4 \/ k % 8 = 5 \/ k % 8 = 6 \/ k % 8 = 7 := by omega
    have hdp : p + 2 + k / 8 < ws.length := by omega
    generalize za ws (p + 2 + k / 8) = Y at *
    generalize k / 8 = d at *
    obtain ⟨y0, y1⟩ := hw1
    have i0 : 0 <= x + 2 + (d : Int) := by omega
    have i1 : x + 2 + (d : Int) < (ws.length : Int) := by have := HX.out; omega
    have i2 : (x + 2 + (d : Int)).toNat = p + 2 + d := by have := HX.out; omega
    have i3 : (d : Int) <= 1048576 := by have := HX.out; omega
    have g1 := hR.cell (i := k) hlt
    rw [if_neg (Nat.lt_irrefl k)] at g1
    have g2 := hR.frozen k
    clear hc HZ hmk
    rcases h8 with e | e | e | e | e | e | e | e
    · have hm' : (k : Int).tmod 8 = 0 := by omega
      rw [e] at hBy
      clear hm e
      simp only [Nat.reduceMul, Nat.reducePow] at hBy
      go_wp2
      refine ⟨⟨k + 1, by omega, by go_num, ?_⟩, by simp [intOf]; omega⟩
      refine zdk hR hB ?_
      rw [hBy]
      clear hBy
      go_light
      omega
    · have hm' : (k : Int).tmod 8 = 1 := by omega
      rw [e] at hBy
      clear hm e
      simp only [Nat.reduceMul, Nat.reducePow] at hBy
      go_wp2
      refine ⟨⟨k + 1, by omega, by go_num, ?_⟩, by simp [intOf]; omega⟩
      refine zdk hR hB ?_
      rw [hBy]
      clear hBy
      go_light
      omega
    · have hm' : (k : Int).tmod 8 = 2 := by omega
      rw [e] at hBy
      clear hm e
      simp only [Nat.reduceMul, Nat.reducePow] at hBy
      go_wp2
      refine ⟨⟨k + 1, by omega, by go_num, ?_⟩, by simp [intOf]; omega⟩
      refine zdk hR hB ?_
      rw [hBy]
      clear hBy
      go_light
      omega
    · have hm' : (k : Int).tmod 8 = 3 := by omega
      rw [e] at hBy
      clear hm e
      simp only [Nat.reduceMul, Nat.reducePow] at hBy
      go_wp2
      refine ⟨⟨k + 1, by omega, by go_num, ?_⟩, by simp [intOf]; omega⟩
      refine zdk hR hB ?_
      rw [hBy]
      clear hBy
      go_light
      omega
    · have hm' : (k : Int).tmod 8 = 4 := by omega
      rw [e] at hBy
      clear hm e
      simp only [Nat.reduceMul, Nat.reducePow] at hBy
      go_wp2
      refine ⟨⟨k + 1, by omega, by go_num, ?_⟩, by simp [intOf]; omega⟩
      refine zdk hR hB ?_
      rw [hBy]
      clear hBy
      go_light
      omega
    · have hm' : (k : Int).tmod 8 = 5 := by omega
      rw [e] at hBy
      clear hm e
      simp only [Nat.reduceMul, Nat.reducePow] at hBy
      go_wp2
      refine ⟨⟨k + 1, by omega, by go_num, ?_⟩, by simp [intOf]; omega⟩
      refine zdk hR hB ?_
      rw [hBy]
      clear hBy
      go_light
      omega
    · have hm' : (k : Int).tmod 8 = 6 := by omega
      rw [e] at hBy
      clear hm e
      simp only [Nat.reduceMul, Nat.reducePow] at hBy
      go_wp2
      refine ⟨⟨k + 1, by omega, by go_num, ?_⟩, by simp [intOf]; omega⟩
      refine zdk hR hB ?_
      rw [hBy]
      clear hBy
      go_light
      omega
    · have hm' : (k : Int).tmod 8 = 7 := by omega
      rw [e] at hBy
      clear hm e
      simp only [Nat.reduceMul, Nat.reducePow] at hBy
      go_wp2
      refine ⟨⟨k + 1, by omega, by go_num, ?_⟩, by simp [intOf]; omega⟩
      refine zdk hR hB ?_
      rw [hBy]
      clear hBy
      go_light
      omega
  · obtain rfl : k = n := by omega
    have hcv := run_convert_bytes_back (P := Tryz.prog) wr 54 9 5 ⟨w1.heap.size, 0, none⟩ k (zdf ws p) Tryz.underlying54 Tryz.underlying5 Tryz.underlying9 (fun j hj => by
     have hj' : j < k := by rw [zei, hN] at hj; exact hj
     rw [Addr.add_lit, Nat.zero_add, hR.cell hj', zkv]
     simp [hj'])
    rw [zei, hN] at hcv
    go_wp2
    go_ret
    exact ⟨rfl, zc B1 hB⟩
def zf0 (ws : List Int) (q : Nat) : Prop := za ws (q + 1) <= 160 /\ q + 1 + (zal ws q + 7) / 8 < ws.length
def zd2 (ws : List Int) (t m : Int) : Prop :=
 (isR t = true -> 0 <= m /\ m < ws.length /\ 0 <= zi ws m.toNat /\ zi ws m.toNat < ws.length) /\ (t = 3 -> zf0 ws (zi ws m.toNat).toNat)
def zch (ws : List Int) (t m t2 m2 : Int) : Bool :=
 if t = t2 then (if isR t = true then (if t = 3 then ((txt ws (zi ws m.toNat).toNat).toList == (txt ws (zi ws m2.toNat).toNat).toList) else (zi ws m.toNat == zi ws m2.toNat)) else (m == m2)) else false
theorem za9 {w W : World} {A B C : Array Value} {ta tb tc : TypeId} (hB : Below (((w.alloc (.cells A ta)).alloc (.cells B tb)).alloc (.cells C tc)).heap.size (((w.alloc (.cells A ta)).alloc (.cells B tb)).alloc (.cells C tc)) W) :
 (∀ i, W.cell? ⟨w.heap.size, i, none⟩ = A[i]?) /\ (∀ i, W.cell? ⟨w.heap.size + 1, i, none⟩ = B[i]?) /\ (∀ i, W.cell? ⟨w.heap.size + 1 + 1, i, none⟩ = C[i]?) := by
 refine ⟨fun i => ?_, fun i => ?_, fun i => ?_⟩
 · rw [hB.cell (p := ⟨w.heap.size, i, none⟩) (by simp; omega)]; simp [go_sem]
 · rw [hB.cell (p := ⟨w.heap.size + 1, i, none⟩) (by simp)]; simp [go_sem]
 · rw [hB.cell (p := ⟨w.heap.size + 1 + 1, i, none⟩) (by simp)]; simp [go_sem]
theorem zba {w W : World} {o o2 o3 : Obj} (hB : Below (((w.alloc o).alloc o2).alloc o3).heap.size (((w.alloc o).alloc o2).alloc o3) W) : Below w.heap.size w W :=
 zc ((((Below.refl w.heap.size w).alloc (Nat.le_refl _) o).alloc (by simp) o2).alloc (by simp; omega) o3) hB
theorem zo1 (aw : Option Addr) (cw : Nat) (ws : List Int) (smz toh top : Int) (cyc : Bool) (sn old cpz sr : Int) (ar : Option Addr) (cr : Nat) (rs : List (Int × Int)) (t m t2 m2 : Int) (w : World) (h : ¬ t = t2) :
 Calls Tryz.prog 162 #[.agg #[.slice aw ws.length cw, .int .i64 smz, .int .i64 toh, .int .i64 top, .bool cyc, .int .i64 sn, .int .i64 old, .int .i64 cpz, .int .i64 sr, .slice ar rs.length cr], .agg #[.int .i64 t, .int .i64 m], .agg #[.int .i64 t2, .int .i64 m2]] w fun e w' => e = .returned (.bool false) /\ Below w.heap.size w w' := by
 have e : (t != t2) = true := by simpa using h
 go_enter Tryz.func162, Tryz.ntmps162
 go_wp2
 go_ret
 exact ⟨rfl, zba (Below.refl _ _)⟩
theorem zmz (aw : Option Addr) (cw : Nat) (ws : List Int) (smz toh top : Int) (cyc : Bool) (sn old cpz sr : Int) (ar : Option Addr) (cr : Nat) (rs : List (Int × Int)) (t m m2 : Int) (w : World) (h : isR t = false) :
 Calls Tryz.prog 162 #[.agg #[.slice aw ws.length cw, .int .i64 smz, .int .i64 toh, .int .i64 top, .bool cyc, .int .i64 sn, .int .i64 old, .int .i64 cpz, .int .i64 sr, .slice ar rs.length cr], .agg #[.int .i64 t, .int .i64 m], .agg #[.int .i64 t, .int .i64 m2]] w fun e w' => e = .returned (.bool (m == m2)) /\ Below w.heap.size w w' := by
 go_enter Tryz.func162, Tryz.ntmps162
 go_wp2_with (go_at_call 42; refine (zaq _ _ _).mono ?_; rintro e w1 ⟨rfl, b1⟩; obtain ⟨c1, c2, c3⟩ := za9 b1)
 go_ret
 exact ⟨rfl, zba b1⟩
set_option maxHeartbeats 2000000 in
theorem zm0 (aw : Option Addr) (cw : Nat) (ws : List Int) (smz toh top : Int) (cyc : Bool) (sn old cpz sr : Int) (ar : Option Addr) (cr : Nat) (rs : List (Int × Int)) (t m t2 m2 : Int) (P Q : Nat) (w : World) (he : (t != t2) = false) (h : isR t = true) (h3 : ¬ t = 3) (hs : Sl w (.slice aw ws.length cw) ws) (hn : ws.length <= 1048576) (hw : zg ws) (hP : m = P) (hQ : m2 = Q) (hP1 : P < ws.length) (hQ1 : Q < ws.length) :
 Calls Tryz.prog 162 #[.agg #[.slice aw ws.length cw, .int .i64 smz, .int .i64 toh, .int .i64 top, .bool cyc, .int .i64 sn, .int .i64 old, .int .i64 cpz, .int .i64 sr, .slice ar rs.length cr], .agg #[.int .i64 t, .int .i64 m], .agg #[.int .i64 t2, .int .i64 m2]] w fun e w' => e = .returned (.bool (zi ws P == zi ws Q)) /\ Below w.heap.size w w' := by
 have HP : Hid (m = (P : Int)) := hP
 have HQ : Hid (m2 = (Q : Int)) := hQ
 have e3 : (t == 3) = false := by simpa using h3
 clear hP hQ h3
 have KP : ∀ W, Below (((w.alloc (.cells #[.slice aw ws.length cw, .int .i64 smz, .int .i64 toh, .int .i64 top, .bool cyc, .int .i64 sn, .int .i64 old, .int .i64 cpz, .int .i64 sr, .slice ar rs.length cr] 30)).alloc (.cells #[.int .i64 t, .int .i64 m] 48)).alloc (.cells #[.int .i64 t2, .int .i64 m2] 48)).heap.size (((w.alloc (.cells #[.slice aw ws.length cw, .int .i64 smz, .int .i64 toh, .int .i64 top, .bool cyc, .int .i64 sn, .int .i64 old, .int .i64 cpz, .int .i64 sr, .slice ar rs.length cr] 30)).alloc (.cells #[.int .i64 t, .int .i64 m] 48)).alloc (.cells #[.int .i64 t2, .int .i64 m2] 48)) W -> (Below (((w.alloc (.cells #[.slice aw ws.length cw, .int .i64 smz, .int .i64 toh, .int .i64 top, .bool cyc, .int .i64 sn, .int .i64 old, .int .i64 cpz, .int .i64 sr, .slice ar rs.length cr] 30)).alloc (.cells #[.int .i64 t, .int .i64 m] 48)).alloc (.cells #[.int .i64 t2, .int .i64 m2] 48)).heap.size (((w.alloc (.cells #[.slice aw ws.length cw, .int .i64 smz, .int .i64 toh, .int .i64 top, .bool cyc, .int .i64 sn, .int .i64 old, .int .i64 cpz, .int .i64 sr, .slice ar rs.length cr] 30)).alloc (.cells #[.int .i64 t, .int .i64 m] 48)).alloc (.cells #[.int .i64 t2, .int .i64 m2] 48)) W /\ (∀ i, W.cell? ⟨w.heap.size, i, none⟩ = (#[.slice aw ws.length cw, .int .i64 smz, .int .i64 toh, .int .i64 top, .bool cyc, .int .i64 sn, .int .i64 old, .int .i64 cpz, .int .i64 sr, .slice ar rs.length cr] : Array Value)[i]?) /\ (∀ i, W.cell? ⟨w.heap.size + 1, i, none⟩ = (#[.int .i64 t, .int .i64 m] : Array Value)[i]?) /\ (∀ i, W.cell? ⟨w.heap.size + 1 + 1, i, none⟩ = (#[.int .i64 t2, .int .i64 m2] : Array Value)[i]?)) := fun W hW => ⟨hW, za9 hW⟩
 have HS : ∀ W, Below (((w.alloc (.cells #[.slice aw ws.length cw, .int .i64 smz, .int .i64 toh, .int .i64 top, .bool cyc, .int .i64 sn, .int .i64 old, .int .i64 cpz, .int .i64 sr, .slice ar rs.length cr] 30)).alloc (.cells #[.int .i64 t, .int .i64 m] 48)).alloc (.cells #[.int .i64 t2, .int .i64 m2] 48)).heap.size (((w.alloc (.cells #[.slice aw ws.length cw, .int .i64 smz, .int .i64 toh, .int .i64 top, .bool cyc, .int .i64 sn, .int .i64 old, .int .i64 cpz, .int .i64 sr, .slice ar rs.length cr] 30)).alloc (.cells #[.int .i64 t, .int .i64 m] 48)).alloc (.cells #[.int .i64 t2, .int .i64 m2] 48)) W -> Sl W (.slice aw ws.length cw) ws := fun W hW => hs.below (zba hW)
 go_enter Tryz.func162, Tryz.ntmps162
 go_wp2_with (go_at_call 42; refine (zaq _ _ _).mono ?_; rintro e w1 ⟨rfl, b1⟩; obtain ⟨c1, c2, c3⟩ := za9 b1)
 go_cut [7, 8] from 22 to 29 (fun s7 s8 wc => s7 = .int .i64 (zi ws P) /\ s8 = .int .i64 (zi ws Q) /\ Below (((w.alloc (.cells #[.slice aw ws.length cw, .int .i64 smz, .int .i64 toh, .int .i64 top, .bool cyc, .int .i64 sn, .int .i64 old, .int .i64 cpz, .int .i64 sr, .slice ar rs.length cr] 30)).alloc (.cells #[.int .i64 t, .int .i64 m] 48)).alloc (.cells #[.int .i64 t2, .int .i64 m2] 48)).heap.size (((w.alloc (.cells #[.slice aw ws.length cw, .int .i64 smz, .int .i64 toh, .int .i64 top, .bool cyc, .int .i64 sn, .int .i64 old, .int .i64 cpz, .int .i64 sr, .slice ar rs.length cr] 30)).alloc (.cells #[.int .i64 t, .int .i64 m] 48)).alloc (.cells #[.int .i64 t2, .int .i64 m2] 48)) wc)
 case first =>
  have b1' := b1.drew
  clear c1 c2 c3 hs
  go_region_held3 (fun W => Below (((w.alloc (.cells #[.slice aw ws.length cw, .int .i64 smz, .int .i64 toh, .int .i64 top, .bool cyc, .int .i64 sn, .int .i64 old, .int .i64 cpz, .int .i64 sr, .slice ar rs.length cr] 30)).alloc (.cells #[.int .i64 t, .int .i64 m] 48)).alloc (.cells #[.int .i64 t2, .int .i64 m2] 48)).heap.size (((w.alloc (.cells #[.slice aw ws.length cw, .int .i64 smz, .int .i64 toh, .int .i64 top, .bool cyc, .int .i64 sn, .int .i64 old, .int .i64 cpz, .int .i64 sr, .slice ar rs.length cr] 30)).alloc (.cells #[.int .i64 t, .int .i64 m] 48)).alloc (.cells #[.int .i64 t2, .int .i64 m2] 48)) W /\ (∀ i, W.cell? ⟨w.heap.size, i, none⟩ = (#[.slice aw ws.length cw, .int .i64 smz, .int .i64 toh, .int .i64 top, .bool cyc, .int .i64 sn, .int .i64 old, .int .i64 cpz, .int .i64 sr, .slice ar rs.length cr] : Array Value)[i]?) /\ (∀ i, W.cell? ⟨w.heap.size + 1, i, none⟩ = (#[.int .i64 t, .int .i64 m] : Array Value)[i]?) /\ (∀ i, W.cell? ⟨w.heap.size + 1 + 1, i, none⟩ = (#[.int .i64 t2, .int .i64 m2] : Array Value)[i]?)) (first | exact KP _ (by assumption) | exact KP _ b1') (first | (go_at_call_of 46 m; refine (zce _ _ _ _ _ _ _ _ _ _ _ _ _ _ m P _ HP.out (HS _ (And.left (by assumption))) hn hw hP1).mono ?_; rintro e w' ⟨rfl, hb⟩; have hB3 := zc (w := (((w.alloc (.cells #[.slice aw ws.length cw, .int .i64 smz, .int .i64 toh, .int .i64 top, .bool cyc, .int .i64 sn, .int .i64 old, .int .i64 cpz, .int .i64 sr, .slice ar rs.length cr] 30)).alloc (.cells #[.int .i64 t, .int .i64 m] 48)).alloc (.cells #[.int .i64 t2, .int .i64 m2] 48))) (And.left (by assumption)) hb; clear hb) | (go_at_call_of 46 m2; refine (zce _ _ _ _ _ _ _ _ _ _ _ _ _ _ m2 Q _ HQ.out (HS _ (And.left (by assumption))) hn hw hQ1).mono ?_; rintro e w' ⟨rfl, hb⟩; have hB3 := zc (w := (((w.alloc (.cells #[.slice aw ws.length cw, .int .i64 smz, .int .i64 toh, .int .i64 top, .bool cyc, .int .i64 sn, .int .i64 old, .int .i64 cpz, .int .i64 sr, .slice ar rs.length cr] 30)).alloc (.cells #[.int .i64 t, .int .i64 m] 48)).alloc (.cells #[.int .i64 t2, .int .i64 m2] 48))) (And.left (by assumption)) hb; clear hb))
  all_goals (go_wp2_with fail; go_meet; exact ⟨rfl, rfl, And.left (by assumption)⟩)
 case rest =>
  obtain ⟨rfl, rfl, hBc⟩ := hcut
  obtain ⟨d1, d2, d3⟩ := za9 hBc
  clear c1 c2 c3 KP HS
  go_wp2
  go_ret
  exact ⟨rfl, zba hBc⟩
theorem zh {b off : Nat} {w W : World} {ws : List Int} (hb : b < w.heap.size) (hc : ∀ i, i < ws.length -> w.cell? ⟨b, off + i, none⟩ = some (.int .u64 (za ws i))) (hB : Below w.heap.size w W) : b < W.heap.size /\ ∀ i, i < ws.length -> W.cell? ⟨b, off + i, none⟩ = some (.int .u64 (za ws i)) :=
 ⟨Nat.lt_of_lt_of_le hb hB.size, fun i hi => by rw [hB.cell (p := ⟨b, off + i, none⟩) hb]; exact hc i hi⟩
set_option maxHeartbeats 2000000 in
theorem zo2 (b off cw : Nat) (ws : List Int) (smz toh top : Int) (cyc : Bool) (sn old cpz sr : Int) (ar : Option Addr) (cr : Nat) (rs : List (Int × Int)) (t m t2 m2 : Int) (P Q P' Q' : Nat) (w : World) (he : (t != t2) = false) (h : isR t = true) (e3 : (t == 3) = true) (hs : Sl w (.slice (some ⟨b, off, none⟩) ws.length cw) ws) (hb : b < w.heap.size) (hc : ∀ i, i < ws.length -> w.cell? ⟨b, off + i, none⟩ = some (.int .u64 (za ws i))) (hn : ws.length <= 1048576) (hw : zg ws) (hP : m = P) (hQ : m2 = Q) (hP1 : P < ws.length) (hQ1 : Q < ws.length) (hP' : zi ws P = P') (hQ' : zi ws Q = Q') (tP : zf0 ws P') (tQ : zf0 ws Q') :
 Calls Tryz.prog 162 #[(.agg #[.slice (some ⟨b, off, none⟩) ws.length cw, .int .i64 smz, .int .i64 toh, .int .i64 top, .bool cyc, .int .i64 sn, .int .i64 old, .int .i64 cpz, .int .i64 sr, .slice ar rs.length cr]), .agg #[.int .i64 t, .int .i64 m], .agg #[.int .i64 t2, .int .i64 m2]] w fun e w' => e = .returned (.bool ((txt ws P').toList == (txt ws Q').toList)) /\ Below w.heap.size w w' := by
 have HP : Hid (m = (P : Int)) := hP
 have HQ : Hid (m2 = (Q : Int)) := hQ
 have HP' : Hid (zi ws P = (P' : Int)) := hP'
 have HQ' : Hid (zi ws Q = (Q' : Int)) := hQ'
 have wP := (zac hw (P' + 1)).1
 have wQ := (zac hw (Q' + 1)).1
 have nP : Hid (za ws (P' + 1) = (zal ws P' : Int)) := by show za ws (P' + 1) = (zal ws P' : Int); unfold zal; omega
 have nQ : Hid (za ws (Q' + 1) = (zal ws Q' : Int)) := by show za ws (Q' + 1) = (zal ws Q' : Int); unfold zal; omega
 have n1P : zal ws P' <= 160 := by have := tP.1; unfold zal; omega
 have n1Q : zal ws Q' <= 160 := by have := tQ.1; unfold zal; omega
 have n2P := tP.2
 have n2Q := tQ.2
 clear hP hQ hP' hQ' wP wQ tP tQ
 have KP : ∀ W, Below (((w.alloc (.cells #[.slice (some ⟨b, off, none⟩) ws.length cw, .int .i64 smz, .int .i64 toh, .int .i64 top, .bool cyc, .int .i64 sn, .int .i64 old, .int .i64 cpz, .int .i64 sr, .slice ar rs.length cr] 30)).alloc (.cells #[.int .i64 t, .int .i64 m] 48)).alloc (.cells #[.int .i64 t2, .int .i64 m2] 48)).heap.size (((w.alloc (.cells #[.slice (some ⟨b, off, none⟩) ws.length cw, .int .i64 smz, .int .i64 toh, .int .i64 top, .bool cyc, .int .i64 sn, .int .i64 old, .int .i64 cpz, .int .i64 sr, .slice ar rs.length cr] 30)).alloc (.cells #[.int .i64 t, .int .i64 m] 48)).alloc (.cells #[.int .i64 t2, .int .i64 m2] 48)) W -> (Below (((w.alloc (.cells #[.slice (some ⟨b, off, none⟩) ws.length cw, .int .i64 smz, .int .i64 toh, .int .i64 top, .bool cyc, .int .i64 sn, .int .i64 old, .int .i64 cpz, .int .i64 sr, .slice ar rs.length cr] 30)).alloc (.cells #[.int .i64 t, .int .i64 m] 48)).alloc (.cells #[.int .i64 t2, .int .i64 m2] 48)).heap.size (((w.alloc (.cells #[.slice (some ⟨b, off, none⟩) ws.length cw, .int .i64 smz, .int .i64 toh, .int .i64 top, .bool cyc, .int .i64 sn, .int .i64 old, .int .i64 cpz, .int .i64 sr, .slice ar rs.length cr] 30)).alloc (.cells #[.int .i64 t, .int .i64 m] 48)).alloc (.cells #[.int .i64 t2, .int .i64 m2] 48)) W /\ (∀ i, W.cell? ⟨w.heap.size, i, none⟩ = (#[.slice (some ⟨b, off, none⟩) ws.length cw, .int .i64 smz, .int .i64 toh, .int .i64 top, .bool cyc, .int .i64 sn, .int .i64 old, .int .i64 cpz, .int .i64 sr, .slice ar rs.length cr] : Array Value)[i]?) /\ (∀ i, W.cell? ⟨w.heap.size + 1, i, none⟩ = (#[.int .i64 t, .int .i64 m] : Array Value)[i]?) /\ (∀ i, W.cell? ⟨w.heap.size + 1 + 1, i, none⟩ = (#[.int .i64 t2, .int .i64 m2] : Array Value)[i]?)) := fun W hW => ⟨hW, za9 hW⟩
 have HS : ∀ W, Below (((w.alloc (.cells #[.slice (some ⟨b, off, none⟩) ws.length cw, .int .i64 smz, .int .i64 toh, .int .i64 top, .bool cyc, .int .i64 sn, .int .i64 old, .int .i64 cpz, .int .i64 sr, .slice ar rs.length cr] 30)).alloc (.cells #[.int .i64 t, .int .i64 m] 48)).alloc (.cells #[.int .i64 t2, .int .i64 m2] 48)).heap.size (((w.alloc (.cells #[.slice (some ⟨b, off, none⟩) ws.length cw, .int .i64 smz, .int .i64 toh, .int .i64 top, .bool cyc, .int .i64 sn, .int .i64 old, .int .i64 cpz, .int .i64 sr, .slice ar rs.length cr] 30)).alloc (.cells #[.int .i64 t, .int .i64 m] 48)).alloc (.cells #[.int .i64 t2, .int .i64 m2] 48)) W -> Sl W (.slice (some ⟨b, off, none⟩) ws.length cw) ws := fun W hW => hs.below (zba hW)
 have HC : ∀ W, Below (((w.alloc (.cells #[.slice (some ⟨b, off, none⟩) ws.length cw, .int .i64 smz, .int .i64 toh, .int .i64 top, .bool cyc, .int .i64 sn, .int .i64 old, .int .i64 cpz, .int .i64 sr, .slice ar rs.length cr] 30)).alloc (.cells #[.int .i64 t, .int .i64 m] 48)).alloc (.cells #[.int .i64 t2, .int .i64 m2] 48)).heap.size (((w.alloc (.cells #[.slice (some ⟨b, off, none⟩) ws.length cw, .int .i64 smz, .int .i64 toh, .int .i64 top, .bool cyc, .int .i64 sn, .int .i64 old, .int .i64 cpz, .int .i64 sr, .slice ar rs.length cr] 30)).alloc (.cells #[.int .i64 t, .int .i64 m] 48)).alloc (.cells #[.int .i64 t2, .int .i64 m2] 48)) W -> b < W.heap.size /\ ∀ i, i < ws.length -> W.cell? ⟨b, off + i, none⟩ = some (.int .u64 (za ws i)) := fun W hW => zh hb hc (zba hW)
 clear hc
 go_enter Tryz.func162, Tryz.ntmps162
 go_wp2_with (go_at_call 42; refine (zaq _ _ _).mono ?_; rintro e w1 ⟨rfl, b1⟩; obtain ⟨c1, c2, c3⟩ := za9 b1)
 go_cut [7, 8] from 22 to 29 (fun s7 s8 wc => s7 = .int .i64 (zi ws P) /\ s8 = .int .i64 (zi ws Q) /\ Below (((w.alloc (.cells #[.slice (some ⟨b, off, none⟩) ws.length cw, .int .i64 smz, .int .i64 toh, .int .i64 top, .bool cyc, .int .i64 sn, .int .i64 old, .int .i64 cpz, .int .i64 sr, .slice ar rs.length cr] 30)).alloc (.cells #[.int .i64 t, .int .i64 m] 48)).alloc (.cells #[.int .i64 t2, .int .i64 m2] 48)).heap.size (((w.alloc (.cells #[.slice (some ⟨b, off, none⟩) ws.length cw, .int .i64 smz, .int .i64 toh, .int .i64 top, .bool cyc, .int .i64 sn, .int .i64 old, .int .i64 cpz, .int .i64 sr, .slice ar rs.length cr] 30)).alloc (.cells #[.int .i64 t, .int .i64 m] 48)).alloc (.cells #[.int .i64 t2, .int .i64 m2] 48)) wc)
 case first =>
  have b1' := b1.drew
  clear c1 c2 c3 hs HC
  go_region_held3 (fun W => Below (((w.alloc (.cells #[.slice (some ⟨b, off, none⟩) ws.length cw, .int .i64 smz, .int .i64 toh, .int .i64 top, .bool cyc, .int .i64 sn, .int .i64 old, .int .i64 cpz, .int .i64 sr, .slice ar rs.length cr] 30)).alloc (.cells #[.int .i64 t, .int .i64 m] 48)).alloc (.cells #[.int .i64 t2, .int .i64 m2] 48)).heap.size (((w.alloc (.cells #[.slice (some ⟨b, off, none⟩) ws.length cw, .int .i64 smz, .int .i64 toh, .int .i64 top, .bool cyc, .int .i64 sn, .int .i64 old, .int .i64 cpz, .int .i64 sr, .slice ar rs.length cr] 30)).alloc (.cells #[.int .i64 t, .int .i64 m] 48)).alloc (.cells #[.int .i64 t2, .int .i64 m2] 48)) W /\ (∀ i, W.cell? ⟨w.heap.size, i, none⟩ = (#[.slice (some ⟨b, off, none⟩) ws.length cw, .int .i64 smz, .int .i64 toh, .int .i64 top, .bool cyc, .int .i64 sn, .int .i64 old, .int .i64 cpz, .int .i64 sr, .slice ar rs.length cr] : Array Value)[i]?) /\ (∀ i, W.cell? ⟨w.heap.size + 1, i, none⟩ = (#[.int .i64 t, .int .i64 m] : Array Value)[i]?) /\ (∀ i, W.cell? ⟨w.heap.size + 1 + 1, i, none⟩ = (#[.int .i64 t2, .int .i64 m2] : Array Value)[i]?)) (first | exact KP _ (by assumption) | exact KP _ b1') (first | (go_at_call_of 46 m; refine (zce _ _ _ _ _ _ _ _ _ _ _ _ _ _ m P _ HP.out (HS _ (And.left (by assumption))) hn hw hP1).mono ?_; rintro e w' ⟨rfl, hb⟩; have hB3 := zc (w := (((w.alloc (.cells #[.slice (some ⟨b, off, none⟩) ws.length cw, .int .i64 smz, .int .i64 toh, .int .i64 top, .bool cyc, .int .i64 sn, .int .i64 old, .int .i64 cpz, .int .i64 sr, .slice ar rs.length cr] 30)).alloc (.cells #[.int .i64 t, .int .i64 m] 48)).alloc (.cells #[.int .i64 t2, .int .i64 m2] 48))) (And.left (by assumption)) hb; clear hb) | (go_at_call_of 46 m2; refine (zce _ _ _ _ _ _ _ _ _ _ _ _ _ _ m2 Q _ HQ.out (HS _ (And.left (by assumption))) hn hw hQ1).mono ?_; rintro e w' ⟨rfl, hb⟩; have hB3 := zc (w := (((w.alloc (.cells #[.slice (some ⟨b, off, none⟩) ws.length cw, .int .i64 smz, .int .i64 toh, .int .i64 top, .bool cyc, .int .i64 sn, .int .i64 old, .int .i64 cpz, .int .i64 sr, .slice ar rs.length cr] 30)).alloc (.cells #[.int .i64 t, .int .i64 m] 48)).alloc (.cells #[.int .i64 t2, .int .i64 m2] 48))) (And.left (by assumption)) hb; clear hb))
  all_goals (go_wp2_with fail; go_meet; exact ⟨rfl, rfl, And.left (by assumption)⟩)
 case rest =>
  obtain ⟨rfl, rfl, hBc⟩ := hcut
  obtain ⟨d1, d2, d3⟩ := za9 hBc
  clear c1 c2 c3
  go_wp2
  have b2' := hBc.drew
  clear d1 d2 d3
  go_region_held3 (fun W => Below (((w.alloc (.cells #[.slice (some ⟨b, off, none⟩) ws.length cw, .int .i64 smz, .int .i64 toh, .int .i64 top, .bool cyc, .int .i64 sn, .int .i64 old, .int .i64 cpz, .int .i64 sr, .slice ar rs.length cr] 30)).alloc (.cells #[.int .i64 t, .int .i64 m] 48)).alloc (.cells #[.int .i64 t2, .int .i64 m2] 48)).heap.size (((w.alloc (.cells #[.slice (some ⟨b, off, none⟩) ws.length cw, .int .i64 smz, .int .i64 toh, .int .i64 top, .bool cyc, .int .i64 sn, .int .i64 old, .int .i64 cpz, .int .i64 sr, .slice ar rs.length cr] 30)).alloc (.cells #[.int .i64 t, .int .i64 m] 48)).alloc (.cells #[.int .i64 t2, .int .i64 m2] 48)) W /\ (∀ i, W.cell? ⟨w.heap.size, i, none⟩ = (#[.slice (some ⟨b, off, none⟩) ws.length cw, .int .i64 smz, .int .i64 toh, .int .i64 top, .bool cyc, .int .i64 sn, .int .i64 old, .int .i64 cpz, .int .i64 sr, .slice ar rs.length cr] : Array Value)[i]?) /\ (∀ i, W.cell? ⟨w.heap.size + 1, i, none⟩ = (#[.int .i64 t, .int .i64 m] : Array Value)[i]?) /\ (∀ i, W.cell? ⟨w.heap.size + 1 + 1, i, none⟩ = (#[.int .i64 t2, .int .i64 m2] : Array Value)[i]?)) (first | exact KP _ (by assumption) | exact KP _ b2') (first | (go_at_call_of 194 (zi ws P); refine (zhx _ _ _ _ _ _ _ _ _ _ _ _ _ _ _ _ P' (zal ws P') _ HP'.out (HS _ (And.left (by assumption))) (HC _ (And.left (by assumption))).1 (HC _ (And.left (by assumption))).2 hn hw nP.out n1P n2P).mono ?_; rintro e w' ⟨rfl, hb⟩; have hB3 := zc (w := (((w.alloc (.cells #[.slice (some ⟨b, off, none⟩) ws.length cw, .int .i64 smz, .int .i64 toh, .int .i64 top, .bool cyc, .int .i64 sn, .int .i64 old, .int .i64 cpz, .int .i64 sr, .slice ar rs.length cr] 30)).alloc (.cells #[.int .i64 t, .int .i64 m] 48)).alloc (.cells #[.int .i64 t2, .int .i64 m2] 48))) (And.left (by assumption)) hb; clear hb) | (go_at_call_of 194 (zi ws Q); refine (zhx _ _ _ _ _ _ _ _ _ _ _ _ _ _ _ _ Q' (zal ws Q') _ HQ'.out (HS _ (And.left (by assumption))) (HC _ (And.left (by assumption))).1 (HC _ (And.left (by assumption))).2 hn hw nQ.out n1Q n2Q).mono ?_; rintro e w' ⟨rfl, hb⟩; have hB3 := zc (w := (((w.alloc (.cells #[.slice (some ⟨b, off, none⟩) ws.length cw, .int .i64 smz, .int .i64 toh, .int .i64 top, .bool cyc, .int .i64 sn, .int .i64 old, .int .i64 cpz, .int .i64 sr, .slice ar rs.length cr] 30)).alloc (.cells #[.int .i64 t, .int .i64 m] 48)).alloc (.cells #[.int .i64 t2, .int .i64 m2] 48))) (And.left (by assumption)) hb; clear hb))
  all_goals
   go_wp2
   go_ret
   exact ⟨rfl, zba (by assumption)⟩
theorem zld (b off cw : Nat) (ws : List Int) (smz toh top : Int) (cyc : Bool) (sn old cpz sr : Int) (ar : Option Addr) (cr : Nat) (rs : List (Int × Int)) (t m t2 m2 : Int) (w : World) (hs : Sl w (.slice (some ⟨b, off, none⟩) ws.length cw) ws) (hb : b < w.heap.size) (hc : ∀ i, i < ws.length -> w.cell? ⟨b, off + i, none⟩ = some (.int .u64 (za ws i))) (hn : ws.length <= 1048576) (hw : zg ws) (k1 : zd2 ws t m) (k2 : zd2 ws t2 m2) :
 Calls Tryz.prog 162 #[(.agg #[.slice (some ⟨b, off, none⟩) ws.length cw, .int .i64 smz, .int .i64 toh, .int .i64 top, .bool cyc, .int .i64 sn, .int .i64 old, .int .i64 cpz, .int .i64 sr, .slice ar rs.length cr]), .agg #[.int .i64 t, .int .i64 m], .agg #[.int .i64 t2, .int .i64 m2]] w fun e w' => e = .returned (.bool (zch ws t m t2 m2)) /\ Below w.heap.size w w' := by
 by_cases h12 : t = t2
 · subst h12
   by_cases hr : isR t = true
   · obtain ⟨a1, a2, a3, a4⟩ := k1.1 hr
     obtain ⟨d1, d2, d3, d4⟩ := k2.1 hr
     obtain ⟨P, rfl⟩ := Int.eq_ofNat_of_zero_le a1
     obtain ⟨Q, rfl⟩ := Int.eq_ofNat_of_zero_le d1
     have tP := k1.2
     have tQ := k2.2
     simp only [Int.toNat_natCast] at a3 a4 d3 d4 tP tQ
     by_cases h3 : t = 3
     · obtain ⟨P', hP'⟩ := Int.eq_ofNat_of_zero_le a3
       obtain ⟨Q', hQ'⟩ := Int.eq_ofNat_of_zero_le d3
       have e : zch ws t P t Q = ((txt ws P').toList == (txt ws Q').toList) := by simp [zch, hr, h3, hP', hQ']; simp [isR]
       rw [e]
       have tP := tP h3
       have tQ := tQ h3
       rw [hP', Int.toNat_natCast] at tP
       rw [hQ', Int.toNat_natCast] at tQ
       exact zo2 b off cw ws smz toh top cyc sn old cpz sr ar cr rs t P t Q P Q P' Q' w (by simp) hr (by simpa using h3) hs hb hc hn hw rfl rfl (by omega) (by omega) hP' hQ' tP tQ
     · have e : zch ws t P t Q = (zi ws P == zi ws Q) := by simp [zch, hr, h3]
       rw [e]
       exact zm0 _ _ _ _ _ _ _ _ _ _ _ _ _ _ t P t Q P Q w (by simp) hr h3 hs hn hw rfl rfl (by omega) (by omega)
   · rw [Bool.not_eq_true] at hr
     have e : zch ws t m t m2 = (m == m2) := by simp [zch, hr]
     rw [e]
     exact zmz _ _ _ _ _ _ _ _ _ _ _ _ _ _ t m m2 w hr
 · have e : zch ws t m t2 m2 = false := by simp [zch, h12]
   rw [e]
   exact zo1 _ _ _ _ _ _ _ _ _ _ _ _ _ _ t m t2 m2 w h12
def zea (ws : List Int) (q : Nat) : Nat -> Int
 | 0 => 5381
 | k + 1 => (33 * zea ws q k + zd3 ws q k) % 1000003
theorem zjg (ws : List Int) (q k : Nat) : 0 <= zea ws q k /\ zea ws q k < 1000003 := by
 cases k with
 | zero => simp [zea]
 | succ k => simp only [zea]; omega
def zbi (ws : List Int) (t m : Int) : Int :=
 if t = 1 then m else if t = 2 then m % 18446744073709551616 % 1000003 else if t = 7 then m + 7 else if t = 3 then zea ws (zi ws m.toNat).toNat (zal ws (zi ws m.toNat).toNat) else rdN (za ws (zi ws m.toNat).toNat)
theorem zoy (aw : Option Addr) (cw : Nat) (ws : List Int) (smz toh top : Int) (cyc : Bool) (sn old cpz sr : Int) (ar : Option Addr) (cr : Nat) (rs : List (Int × Int)) (t m : Int) (w : World) (h : (t == 1) = true) :
 Calls Tryz.prog 161 #[.agg #[.slice aw ws.length cw, .int .i64 smz, .int .i64 toh, .int .i64 top, .bool cyc, .int .i64 sn, .int .i64 old, .int .i64 cpz, .int .i64 sr, .slice ar rs.length cr], .agg #[.int .i64 t, .int .i64 m]] w fun e w' => e = .returned (.int .i64 m) /\ Below w.heap.size w w' := by
 go_enter Tryz.func161, Tryz.ntmps161
 go_wp2
 go_ret
 exact ⟨rfl, zae (Below.refl _ _)⟩
theorem zmx (m : Int) : wrap64 ((IntKind.u64.wrap m).tmod 1000003) = m % 18446744073709551616 % 1000003 := by
 rw [IntKind.wrap_u64]
 rw [Int.tmod_eq_emod_of_nonneg (by omega)]
 exact za8 (by omega) (by omega)
theorem zrk (aw : Option Addr) (cw : Nat) (ws : List Int) (smz toh top : Int) (cyc : Bool) (sn old cpz sr : Int) (ar : Option Addr) (cr : Nat) (rs : List (Int × Int)) (t m : Int) (w : World) (h1 : (t == 1) = false) (h : (t == 2) = true) :
 Calls Tryz.prog 161 #[.agg #[.slice aw ws.length cw, .int .i64 smz, .int .i64 toh, .int .i64 top, .bool cyc, .int .i64 sn, .int .i64 old, .int .i64 cpz, .int .i64 sr, .slice ar rs.length cr], .agg #[.int .i64 t, .int .i64 m]] w fun e w' => e = .returned (.int .i64 (m % 18446744073709551616 % 1000003)) /\ Below w.heap.size w w' := by
 go_enter Tryz.func161, Tryz.ntmps161
 go_wp2
 go_ret
 exact ⟨zby (zmx m), zae (Below.refl _ _)⟩
theorem zrl (aw : Option Addr) (cw : Nat) (ws : List Int) (smz toh top : Int) (cyc : Bool) (sn old cpz sr : Int) (ar : Option Addr) (cr : Nat) (rs : List (Int × Int)) (t m : Int) (w : World) (h1 : (t == 1) = false) (h2 : (t == 2) = false) (h : (t == 7) = true) (m0 : 1 <= m) (m1 : m <= 20) :
 Calls Tryz.prog 161 #[.agg #[.slice aw ws.length cw, .int .i64 smz, .int .i64 toh, .int .i64 top, .bool cyc, .int .i64 sn, .int .i64 old, .int .i64 cpz, .int .i64 sr, .slice ar rs.length cr], .agg #[.int .i64 t, .int .i64 m]] w fun e w' => e = .returned (.int .i64 (m + 7)) /\ Below w.heap.size w w' := by
 go_enter Tryz.func161, Tryz.ntmps161
 go_wp2
 go_ret
 exact ⟨rfl, zae (Below.refl _ _)⟩
theorem zhw {w W : World} {A B : Array Value} {ta tb : TypeId} (hB : Below ((w.alloc (.cells A ta)).alloc (.cells B tb)).heap.size ((w.alloc (.cells A ta)).alloc (.cells B tb)) W) :
 (∀ i, W.cell? ⟨w.heap.size, i, none⟩ = A[i]?) /\ (∀ i, W.cell? ⟨w.heap.size + 1, i, none⟩ = B[i]?) := by
 refine ⟨fun i => ?_, fun i => ?_⟩
 · rw [hB.cell (p := ⟨w.heap.size, i, none⟩) (by simp; omega)]; simp [go_sem]
 · rw [hB.cell (p := ⟨w.heap.size + 1, i, none⟩) (by simp)]; simp [go_sem]
set_option maxHeartbeats 2000000 in
theorem zoz (aw : Option Addr) (cw : Nat) (ws : List Int) (smz toh top : Int) (cyc : Bool) (sn old cpz sr : Int) (ar : Option Addr) (cr : Nat) (rs : List (Int × Int)) (t m : Int) (P P' : Nat) (w : World) (h1 : (t == 1) = false) (h2 : (t == 2) = false) (h7 : (t == 7) = false) (h3 : (t == 3) = false) (hs : Sl w (.slice aw ws.length cw) ws) (hn : ws.length <= 1048576) (hw : zg ws) (hP : m = P) (hP1 : P < ws.length) (hP' : zi ws P = P') (hP2 : P' < ws.length) :
 Calls Tryz.prog 161 #[.agg #[.slice aw ws.length cw, .int .i64 smz, .int .i64 toh, .int .i64 top, .bool cyc, .int .i64 sn, .int .i64 old, .int .i64 cpz, .int .i64 sr, .slice ar rs.length cr], .agg #[.int .i64 t, .int .i64 m]] w fun e w' => e = .returned (.int .i64 (rdN (za ws P'))) /\ Below w.heap.size w w' := by
 have HP : Hid (m = (P : Int)) := hP
 have HP' : Hid (zi ws P = (P' : Int)) := hP'
 have hfs := zfw
 clear hP hP'
 have KP : ∀ W, Below ((w.alloc (.cells #[.slice aw ws.length cw, .int .i64 smz, .int .i64 toh, .int .i64 top, .bool cyc, .int .i64 sn, .int .i64 old, .int .i64 cpz, .int .i64 sr, .slice ar rs.length cr] 30)).alloc (.cells #[.int .i64 t, .int .i64 m] 48)).heap.size ((w.alloc (.cells #[.slice aw ws.length cw, .int .i64 smz, .int .i64 toh, .int .i64 top, .bool cyc, .int .i64 sn, .int .i64 old, .int .i64 cpz, .int .i64 sr, .slice ar rs.length cr] 30)).alloc (.cells #[.int .i64 t, .int .i64 m] 48)) W -> (Below ((w.alloc (.cells #[.slice aw ws.length cw, .int .i64 smz, .int .i64 toh, .int .i64 top, .bool cyc, .int .i64 sn, .int .i64 old, .int .i64 cpz, .int .i64 sr, .slice ar rs.length cr] 30)).alloc (.cells #[.int .i64 t, .int .i64 m] 48)).heap.size ((w.alloc (.cells #[.slice aw ws.length cw, .int .i64 smz, .int .i64 toh, .int .i64 top, .bool cyc, .int .i64 sn, .int .i64 old, .int .i64 cpz, .int .i64 sr, .slice ar rs.length cr] 30)).alloc (.cells #[.int .i64 t, .int .i64 m] 48)) W /\ (∀ i, W.cell? ⟨w.heap.size, i, none⟩ = (#[.slice aw ws.length cw, .int .i64 smz, .int .i64 toh, .int .i64 top, .bool cyc, .int .i64 sn, .int .i64 old, .int .i64 cpz, .int .i64 sr, .slice ar rs.length cr] : Array Value)[i]?) /\ (∀ i, W.cell? ⟨w.heap.size + 1, i, none⟩ = (#[.int .i64 t, .int .i64 m] : Array Value)[i]?)) := fun W hW => ⟨hW, zhw hW⟩
 have HS : ∀ W, Below ((w.alloc (.cells #[.slice aw ws.length cw, .int .i64 smz, .int .i64 toh, .int .i64 top, .bool cyc, .int .i64 sn, .int .i64 old, .int .i64 cpz, .int .i64 sr, .slice ar rs.length cr] 30)).alloc (.cells #[.int .i64 t, .int .i64 m] 48)).heap.size ((w.alloc (.cells #[.slice aw ws.length cw, .int .i64 smz, .int .i64 toh, .int .i64 top, .bool cyc, .int .i64 sn, .int .i64 old, .int .i64 cpz, .int .i64 sr, .slice ar rs.length cr] 30)).alloc (.cells #[.int .i64 t, .int .i64 m] 48)) W -> Sl W (.slice aw ws.length cw) ws := fun W hW => hs.below (zae hW)
 go_enter Tryz.func161, Tryz.ntmps161
 go_wp2
 have b1' := (Below.refl ((w.alloc (.cells #[.slice aw ws.length cw, .int .i64 smz, .int .i64 toh, .int .i64 top, .bool cyc, .int .i64 sn, .int .i64 old, .int .i64 cpz, .int .i64 sr, .slice ar rs.length cr] 30)).alloc (.cells #[.int .i64 t, .int .i64 m] 48)).heap.size ((w.alloc (.cells #[.slice aw ws.length cw, .int .i64 smz, .int .i64 toh, .int .i64 top, .bool cyc, .int .i64 sn, .int .i64 old, .int .i64 cpz, .int .i64 sr, .slice ar rs.length cr] 30)).alloc (.cells #[.int .i64 t, .int .i64 m] 48))).drew
 clear hs
 go_region_held3 (fun W => Below ((w.alloc (.cells #[.slice aw ws.length cw, .int .i64 smz, .int .i64 toh, .int .i64 top, .bool cyc, .int .i64 sn, .int .i64 old, .int .i64 cpz, .int .i64 sr, .slice ar rs.length cr] 30)).alloc (.cells #[.int .i64 t, .int .i64 m] 48)).heap.size ((w.alloc (.cells #[.slice aw ws.length cw, .int .i64 smz, .int .i64 toh, .int .i64 top, .bool cyc, .int .i64 sn, .int .i64 old, .int .i64 cpz, .int .i64 sr, .slice ar rs.length cr] 30)).alloc (.cells #[.int .i64 t, .int .i64 m] 48)) W /\ (∀ i, W.cell? ⟨w.heap.size, i, none⟩ = (#[.slice aw ws.length cw, .int .i64 smz, .int .i64 toh, .int .i64 top, .bool cyc, .int .i64 sn, .int .i64 old, .int .i64 cpz, .int .i64 sr, .slice ar rs.length cr] : Array Value)[i]?) /\ (∀ i, W.cell? ⟨w.heap.size + 1, i, none⟩ = (#[.int .i64 t, .int .i64 m] : Array Value)[i]?)) (first | exact KP _ (by assumption) | exact KP _ b1') (first | (go_at_call 46; refine (zce _ _ _ _ _ _ _ _ _ _ _ _ _ _ m P _ HP.out (HS _ (And.left (by assumption))) hn hw hP1).mono ?_; rintro e w' ⟨rfl, hb⟩; have hB3 := zc (w := ((w.alloc (.cells #[.slice aw ws.length cw, .int .i64 smz, .int .i64 toh, .int .i64 top, .bool cyc, .int .i64 sn, .int .i64 old, .int .i64 cpz, .int .i64 sr, .slice ar rs.length cr] 30)).alloc (.cells #[.int .i64 t, .int .i64 m] 48))) (And.left (by assumption)) hb; clear hb) | (go_at_call 43; refine (zbr _ _ _ _ _ _ _ _ _ _ _ _ _ _ _ P' _ HP'.out (HS _ (And.left (by assumption))) hn hw hP2).mono ?_; rintro e w' ⟨rfl, hb⟩; have hB3 := zc (w := ((w.alloc (.cells #[.slice aw ws.length cw, .int .i64 smz, .int .i64 toh, .int .i64 top, .bool cyc, .int .i64 sn, .int .i64 old, .int .i64 cpz, .int .i64 sr, .slice ar rs.length cr] 30)).alloc (.cells #[.int .i64 t, .int .i64 m] 48))) (And.left (by assumption)) hb; clear hb))
 all_goals
  go_wp2
  go_ret
  exact ⟨rfl, zae (by assumption)⟩
theorem zjh (ws : List Int) (q : Nat) : (txt ws q).size = zal ws q := by simp [txt, ByteArray.size, zdf]
theorem zpy (ws : List Int) (q k : Nat) (h : k < (txt ws q).size) : (txt ws q)[k].toNat = zd3 ws q k := by
 have hk : k < (zdf ws q).length := by rw [zei, <- zjh]; exact h
 have := zkv ws q k hk
 have e : (txt ws q)[k]'h = (zdf ws q)[k]'hk := by simp [txt, ByteArray.getElem_eq_getElem_data]
 exact (congrArg UInt8.toNat e).trans (by omega)
theorem zlc {h : Int} {x y : Nat} (h0 : 0 <= h) (h1 : h < 1000003) (hy : y < 256) (e : x = y) : (wrap64 (33 * h + wrap64 (x : Int))).tmod 1000003 = (33 * h + y) % 1000003 := by
 subst e
 rw [za8 (x := (x : Int)) (by omega) (by omega), za8 (by omega) (by omega), Int.tmod_eq_emod_of_nonneg (by omega)]
set_option maxHeartbeats 2000000 in
theorem zo0 (b off cw : Nat) (ws : List Int) (smz toh top : Int) (cyc : Bool) (sn old cpz sr : Int) (ar : Option Addr) (cr : Nat) (rs : List (Int × Int)) (t m : Int) (P P' : Nat) (w : World) (h1 : (t == 1) = false) (h2 : (t == 2) = false) (h7 : (t == 7) = false) (h3 : (t == 3) = true) (hs : Sl w (.slice (some ⟨b, off, none⟩) ws.length cw) ws) (hb : b < w.heap.size) (hc : ∀ i, i < ws.length -> w.cell? ⟨b, off + i, none⟩ = some (.int .u64 (za ws i))) (hn : ws.length <= 1048576) (hw : zg ws) (hP : m = P) (hP1 : P < ws.length) (hP' : zi ws P = P') (tP : zf0 ws P') :
 Calls Tryz.prog 161 #[(.agg #[.slice (some ⟨b, off, none⟩) ws.length cw, .int .i64 smz, .int .i64 toh, .int .i64 top, .bool cyc, .int .i64 sn, .int .i64 old, .int .i64 cpz, .int .i64 sr, .slice ar rs.length cr]), .agg #[.int .i64 t, .int .i64 m]] w fun e w' => e = .returned (.int .i64 (zea ws P' (zal ws P'))) /\ Below w.heap.size w w' := by
 have HP : Hid (m = (P : Int)) := hP
 have HP' : Hid (zi ws P = (P' : Int)) := hP'
 have wP := (zac hw (P' + 1)).1
 have nP : Hid (za ws (P' + 1) = (zal ws P' : Int)) := by show za ws (P' + 1) = (zal ws P' : Int); unfold zal; omega
 have n1P : zal ws P' <= 160 := by have := tP.1; unfold zal; omega
 have n2P := tP.2
 clear hP hP' wP tP
 have KP : ∀ W, Below ((w.alloc (.cells #[.slice (some ⟨b, off, none⟩) ws.length cw, .int .i64 smz, .int .i64 toh, .int .i64 top, .bool cyc, .int .i64 sn, .int .i64 old, .int .i64 cpz, .int .i64 sr, .slice ar rs.length cr] 30)).alloc (.cells #[.int .i64 t, .int .i64 m] 48)).heap.size ((w.alloc (.cells #[.slice (some ⟨b, off, none⟩) ws.length cw, .int .i64 smz, .int .i64 toh, .int .i64 top, .bool cyc, .int .i64 sn, .int .i64 old, .int .i64 cpz, .int .i64 sr, .slice ar rs.length cr] 30)).alloc (.cells #[.int .i64 t, .int .i64 m] 48)) W -> (Below ((w.alloc (.cells #[.slice (some ⟨b, off, none⟩) ws.length cw, .int .i64 smz, .int .i64 toh, .int .i64 top, .bool cyc, .int .i64 sn, .int .i64 old, .int .i64 cpz, .int .i64 sr, .slice ar rs.length cr] 30)).alloc (.cells #[.int .i64 t, .int .i64 m] 48)).heap.size ((w.alloc (.cells #[.slice (some ⟨b, off, none⟩) ws.length cw, .int .i64 smz, .int .i64 toh, .int .i64 top, .bool cyc, .int .i64 sn, .int .i64 old, .int .i64 cpz, .int .i64 sr, .slice ar rs.length cr] 30)).alloc (.cells #[.int .i64 t, .int .i64 m] 48)) W /\ (∀ i, W.cell? ⟨w.heap.size, i, none⟩ = (#[.slice (some ⟨b, off, none⟩) ws.length cw, .int .i64 smz, .int .i64 toh, .int .i64 top, .bool cyc, .int .i64 sn, .int .i64 old, .int .i64 cpz, .int .i64 sr, .slice ar rs.length cr] : Array Value)[i]?) /\ (∀ i, W.cell? ⟨w.heap.size + 1, i, none⟩ = (#[.int .i64 t, .int .i64 m] : Array Value)[i]?)) := fun W hW => ⟨hW, zhw hW⟩
 have HS : ∀ W, Below ((w.alloc (.cells #[.slice (some ⟨b, off, none⟩) ws.length cw, .int .i64 smz, .int .i64 toh, .int .i64 top, .bool cyc, .int .i64 sn, .int .i64 old, .int .i64 cpz, .int .i64 sr, .slice ar rs.length cr] 30)).alloc (.cells #[.int .i64 t, .int .i64 m] 48)).heap.size ((w.alloc (.cells #[.slice (some ⟨b, off, none⟩) ws.length cw, .int .i64 smz, .int .i64 toh, .int .i64 top, .bool cyc, .int .i64 sn, .int .i64 old, .int .i64 cpz, .int .i64 sr, .slice ar rs.length cr] 30)).alloc (.cells #[.int .i64 t, .int .i64 m] 48)) W -> Sl W (.slice (some ⟨b, off, none⟩) ws.length cw) ws := fun W hW => hs.below (zae hW)
 have HC : ∀ W, Below ((w.alloc (.cells #[.slice (some ⟨b, off, none⟩) ws.length cw, .int .i64 smz, .int .i64 toh, .int .i64 top, .bool cyc, .int .i64 sn, .int .i64 old, .int .i64 cpz, .int .i64 sr, .slice ar rs.length cr] 30)).alloc (.cells #[.int .i64 t, .int .i64 m] 48)).heap.size ((w.alloc (.cells #[.slice (some ⟨b, off, none⟩) ws.length cw, .int .i64 smz, .int .i64 toh, .int .i64 top, .bool cyc, .int .i64 sn, .int .i64 old, .int .i64 cpz, .int .i64 sr, .slice ar rs.length cr] 30)).alloc (.cells #[.int .i64 t, .int .i64 m] 48)) W -> b < W.heap.size /\ ∀ i, i < ws.length -> W.cell? ⟨b, off + i, none⟩ = some (.int .u64 (za ws i)) := fun W hW => zh hb hc (zae hW)
 go_enter Tryz.func161, Tryz.ntmps161
 go_wp2
 have b1' := (Below.refl ((w.alloc (.cells #[.slice (some ⟨b, off, none⟩) ws.length cw, .int .i64 smz, .int .i64 toh, .int .i64 top, .bool cyc, .int .i64 sn, .int .i64 old, .int .i64 cpz, .int .i64 sr, .slice ar rs.length cr] 30)).alloc (.cells #[.int .i64 t, .int .i64 m] 48)).heap.size ((w.alloc (.cells #[.slice (some ⟨b, off, none⟩) ws.length cw, .int .i64 smz, .int .i64 toh, .int .i64 top, .bool cyc, .int .i64 sn, .int .i64 old, .int .i64 cpz, .int .i64 sr, .slice ar rs.length cr] 30)).alloc (.cells #[.int .i64 t, .int .i64 m] 48))).drew
 clear hs hc
 go_cut [5] from 28 to 33 (fun s5 wc => s5 = .string (txt ws P') /\ Below ((w.alloc (.cells #[.slice (some ⟨b, off, none⟩) ws.length cw, .int .i64 smz, .int .i64 toh, .int .i64 top, .bool cyc, .int .i64 sn, .int .i64 old, .int .i64 cpz, .int .i64 sr, .slice ar rs.length cr] 30)).alloc (.cells #[.int .i64 t, .int .i64 m] 48)).heap.size ((w.alloc (.cells #[.slice (some ⟨b, off, none⟩) ws.length cw, .int .i64 smz, .int .i64 toh, .int .i64 top, .bool cyc, .int .i64 sn, .int .i64 old, .int .i64 cpz, .int .i64 sr, .slice ar rs.length cr] 30)).alloc (.cells #[.int .i64 t, .int .i64 m] 48)) wc)
 case first =>
  go_region_held3 (fun W => Below ((w.alloc (.cells #[.slice (some ⟨b, off, none⟩) ws.length cw, .int .i64 smz, .int .i64 toh, .int .i64 top, .bool cyc, .int .i64 sn, .int .i64 old, .int .i64 cpz, .int .i64 sr, .slice ar rs.length cr] 30)).alloc (.cells #[.int .i64 t, .int .i64 m] 48)).heap.size ((w.alloc (.cells #[.slice (some ⟨b, off, none⟩) ws.length cw, .int .i64 smz, .int .i64 toh, .int .i64 top, .bool cyc, .int .i64 sn, .int .i64 old, .int .i64 cpz, .int .i64 sr, .slice ar rs.length cr] 30)).alloc (.cells #[.int .i64 t, .int .i64 m] 48)) W /\ (∀ i, W.cell? ⟨w.heap.size, i, none⟩ = (#[.slice (some ⟨b, off, none⟩) ws.length cw, .int .i64 smz, .int .i64 toh, .int .i64 top, .bool cyc, .int .i64 sn, .int .i64 old, .int .i64 cpz, .int .i64 sr, .slice ar rs.length cr] : Array Value)[i]?) /\ (∀ i, W.cell? ⟨w.heap.size + 1, i, none⟩ = (#[.int .i64 t, .int .i64 m] : Array Value)[i]?)) (first | exact KP _ (by assumption) | exact KP _ b1') (first | (go_at_call 46; refine (zce _ _ _ _ _ _ _ _ _ _ _ _ _ _ m P _ HP.out (HS _ (And.left (by assumption))) hn hw hP1).mono ?_; rintro e w' ⟨rfl, hb⟩; have hB3 := zc (w := ((w.alloc (.cells #[.slice (some ⟨b, off, none⟩) ws.length cw, .int .i64 smz, .int .i64 toh, .int .i64 top, .bool cyc, .int .i64 sn, .int .i64 old, .int .i64 cpz, .int .i64 sr, .slice ar rs.length cr] 30)).alloc (.cells #[.int .i64 t, .int .i64 m] 48))) (And.left (by assumption)) hb; clear hb) | (go_at_call 194; refine (zhx _ _ _ _ _ _ _ _ _ _ _ _ _ _ _ _ P' (zal ws P') _ HP'.out (HS _ (And.left (by assumption))) (HC _ (And.left (by assumption))).1 (HC _ (And.left (by assumption))).2 hn hw nP.out n1P n2P).mono ?_; rintro e w' ⟨rfl, hb⟩; have hB3 := zc (w := ((w.alloc (.cells #[.slice (some ⟨b, off, none⟩) ws.length cw, .int .i64 smz, .int .i64 toh, .int .i64 top, .bool cyc, .int .i64 sn, .int .i64 old, .int .i64 cpz, .int .i64 sr, .slice ar rs.length cr] 30)).alloc (.cells #[.int .i64 t, .int .i64 m] 48))) (And.left (by assumption)) hb; clear hb))
  all_goals (go_wp2_with fail; go_meet; exact ⟨rfl, And.left (by assumption)⟩)
 case rest =>
  obtain ⟨rfl, hBc⟩ := hcut
  have hsz := zjh ws P'
  clear KP HS HC b1' HP HP' nP
  go_wp2
  go_loopw [6, 7] (fun u6 u7 wr => ∃ k : Nat, k <= zal ws P' /\ u7 = .int .i64 k /\ u6 = .int .i64 (zea ws P' k) /\ wr = wc) (fun _ u7 _ => zal ws P' - (intOf u7).toNat)
  case atStart => exact ⟨0, Nat.zero_le _, rfl, rfl, rfl⟩
  case round =>
   obtain ⟨k, hk, rfl, rfl, rfl⟩ := hrel
   by_cases hlt : k < zal ws P'
   · have hlt' : (k : Int) < (zal ws P' : Int) := by omega
     have hh := zjg ws P' k
     obtain ⟨hh0, hh1⟩ := hh
     have hby := zgf ws P' k
     go_wp2
     refine ⟨⟨k + 1, by omega, by go_num, ?_, trivial⟩, by simp [intOf]; omega⟩
     rw [zlc hh0 hh1 hby (zpy ws P' k (by omega))]
     rfl
   · obtain rfl : k = zal ws P' := by omega
     go_wp2
     go_ret
     exact ⟨rfl, zae hBc⟩
theorem zte (b off cw : Nat) (ws : List Int) (smz toh top : Int) (cyc : Bool) (sn old cpz sr : Int) (ar : Option Addr) (cr : Nat) (rs : List (Int × Int)) (t m : Int) (w : World) (hs : Sl w (.slice (some ⟨b, off, none⟩) ws.length cw) ws) (hb : b < w.heap.size) (hc : ∀ i, i < ws.length -> w.cell? ⟨b, off + i, none⟩ = some (.int .u64 (za ws i))) (hn : ws.length <= 1048576) (hw : zg ws) (hv : vOk t m = true) (h0 : t ≠ 0) (k1 : zd2 ws t m) :
 Calls Tryz.prog 161 #[(.agg #[.slice (some ⟨b, off, none⟩) ws.length cw, .int .i64 smz, .int .i64 toh, .int .i64 top, .bool cyc, .int .i64 sn, .int .i64 old, .int .i64 cpz, .int .i64 sr, .slice ar rs.length cr]), .agg #[.int .i64 t, .int .i64 m]] w fun e w' => e = .returned (.int .i64 (zbi ws t m)) /\ Below w.heap.size w w' := by
 simp only [vOk, decide_eq_true_eq] at hv
 by_cases h1 : t = 1
 · have e : zbi ws t m = m := by simp [zbi, h1]
   rw [e]
   exact zoy _ _ _ _ _ _ _ _ _ _ _ _ _ _ t m w (by simpa using h1)
 · by_cases h2 : t = 2
   · have e : zbi ws t m = m % 18446744073709551616 % 1000003 := by simp [zbi, h2]
     rw [e]
     exact zrk _ _ _ _ _ _ _ _ _ _ _ _ _ _ t m w (by simpa using h1) (by simpa using h2)
   · by_cases h7 : t = 7
     · have e : zbi ws t m = m + 7 := by simp [zbi, h7]
       rw [e]
       exact zrl _ _ _ _ _ _ _ _ _ _ _ _ _ _ t m w (by simpa using h1) (by simpa using h2) (by simpa using h7) (by omega) (by omega)
     · have hr : isR t = true := by simp only [isR, decide_eq_true_eq]; omega
       obtain ⟨a1, a2, a3, a4⟩ := k1.1 hr
       have tP := k1.2
       obtain ⟨P, rfl⟩ := Int.eq_ofNat_of_zero_le a1
       simp only [Int.toNat_natCast] at a3 a4 tP
       obtain ⟨P', hP'⟩ := Int.eq_ofNat_of_zero_le a3
       by_cases h3 : t = 3
       · have e : zbi ws t P = zea ws P' (zal ws P') := by simp [zbi, h3, hP']
         rw [e]
         have tP := tP h3
         rw [hP', Int.toNat_natCast] at tP
         exact zo0 b off cw ws smz toh top cyc sn old cpz sr ar cr rs t P P P' w (by simpa using h1) (by simpa using h2) (by simpa using h7) (by simpa using h3) hs hb hc hn hw rfl (by omega) hP' tP
       · have e : zbi ws t P = rdN (za ws P') := by simp [zbi, h1, h2, h7, h3, hP']
         rw [e]
         exact zoz _ _ _ _ _ _ _ _ _ _ _ _ _ _ t P P P' w (by simpa using h1) (by simpa using h2) (by simpa using h7) (by simpa using h3) hs hn hw rfl (by omega) hP' (by omega)
theorem zmy {ws : List Int} {t m : Int} (hv : vOk t m = true) (h0 : t ≠ 0) : 0 <= zbi ws t m /\ zbi ws t m <= 1000000000 := by
 simp only [vOk, decide_eq_true_eq] at hv
 unfold zbi
 split
 · omega
 · split
   · omega
   · split
     · omega
     · split
       · have := zjg ws (zi ws m.toNat).toNat (zal ws (zi ws m.toNat).toNat); omega
       · unfold rdN
         split
         · rename_i h
           unfold zai at h
           rw [zen] at h
           unfold HOk at h
           omega
         · omega
def kT (ws : List Int) (B i : Nat) : Int := rvT ws (B + 1 + 4 * i)
def kN (ws : List Int) (B i : Nat) : Int := rvN ws (B + 1 + 4 * i)
def zcp (ws : List Int) (B n : Nat) (t m : Int) : Nat -> Nat -> Int × Bool
 | 0, _ => (-1, false)
 | k + 1, i => if kT ws B i = 0 then ((i : Int), false) else if zch ws (kT ws B i) (kN ws B i) t m = true then ((i : Int), true) else zcp ws B n t m k ((i + 1) % n)
def zdr (ws : List Int) (B n : Nat) (t m : Int) : Int × Bool := zcp ws B n t m n ((zbi ws t m).toNat % n)
def zfz (ws : List Int) (B n : Nat) : Prop := B + 4 * n < ws.length /\ ∀ i, i < n -> zd2 ws (kT ws B i) (kN ws B i)
theorem zhc {h : Int} (h0 : 0 <= h) (n : Nat) : h % (n : Int) = ((h.toNat % n : Nat) : Int) := by
 rw [Int.natCast_emod, Int.toNat_of_nonneg h0]
theorem zox (aw : Option Addr) (cw : Nat) (ws : List Int) (smz toh top : Int) (cyc : Bool) (sn old cpz sr : Int) (ar : Option Addr) (cr : Nat) (rs : List (Int × Int)) (x n t m : Int) (w : World) (h : (t == 0) = true) :
 Calls Tryz.prog 130 #[.agg #[.slice aw ws.length cw, .int .i64 smz, .int .i64 toh, .int .i64 top, .bool cyc, .int .i64 sn, .int .i64 old, .int .i64 cpz, .int .i64 sr, .slice ar rs.length cr], .int .i64 x, .int .i64 n, .agg #[.int .i64 t, .int .i64 m]] w fun e w' => e = .returned (.tuple #[.int .i64 (-1), .bool false]) /\ Below w.heap.size w w' := by
 by_cases hn : n = 0
 · have e : (n == 0) = true := by simpa using hn
   clear hn
   go_enter Tryz.func130, Tryz.ntmps130
   go_wp2
   go_ret2
   exact ⟨rfl, zae (Below.refl _ _)⟩
 · have e : (n == 0) = false := by simpa using hn
   clear hn
   go_enter Tryz.func130, Tryz.ntmps130
   go_wp2
   go_ret2
   exact ⟨rfl, zae (Below.refl _ _)⟩
set_option maxHeartbeats 2000000 in
theorem ztd (b off cw : Nat) (ws : List Int) (smz toh top : Int) (cyc : Bool) (sn old cpz sr : Int) (ar : Option Addr) (cr : Nat) (rs : List (Int × Int)) (x t m : Int) (B n : Nat) (w : World) (hs : Sl w (.slice (some ⟨b, off, none⟩) ws.length cw) ws) (hb : b < w.heap.size) (hc : ∀ i, i < ws.length -> w.cell? ⟨b, off + i, none⟩ = some (.int .u64 (za ws i))) (hn : ws.length <= 1048576) (hw : zg ws) (hx : x = B) (hn0 : 0 < n) (hn1 : n <= 64) (hK : zfz ws B n) (h0 : (t == 0) = false) (hv : vOk t m = true) (k1 : zd2 ws t m) :
 Calls Tryz.prog 130 #[(.agg #[.slice (some ⟨b, off, none⟩) ws.length cw, .int .i64 smz, .int .i64 toh, .int .i64 top, .bool cyc, .int .i64 sn, .int .i64 old, .int .i64 cpz, .int .i64 sr, .slice ar rs.length cr]), .int .i64 x, .int .i64 n, .agg #[.int .i64 t, .int .i64 m]] w fun e w' => e = .returned (.tuple #[.int .i64 (zdr ws B n t m).1, .bool (zdr ws B n t m).2]) /\ Below w.heap.size w w' := by
 have ht0 : t ≠ 0 := by simpa using h0
 obtain ⟨hh0, hh1⟩ := zmy (ws := ws) hv ht0
 have HX : Hid (x = (B : Int)) := hx
 have nz : ((n : Int) == 0) = false := by simp; omega
 have nz' : ¬ ((n : Int) = 0) := by omega
 have n1' : (n : Int) <= 64 := by omega
 have HV : Hid (vOk t m = true) := hv
 have HK1 : Hid (zd2 ws t m) := k1
 have HKS : Hid (zfz ws B n) := hK
 have HT0 : Hid (t ≠ 0) := ht0
 obtain ⟨i0, hi0⟩ : ∃ i0 : Nat, i0 = (zbi ws t m).toNat % n := ⟨_, rfl⟩
 have hmod : (zbi ws t m).tmod (n : Int) = (i0 : Int) := by rw [Int.tmod_eq_emod_of_nonneg hh0, hi0]; exact zhc hh0 n
 have hi0n : i0 < n := by rw [hi0]; exact Nat.mod_lt _ hn0
 have HF : Hid (zdr ws B n t m = zcp ws B n t m n i0) := by show zdr ws B n t m = zcp ws B n t m n i0; rw [hi0]; rfl
 obtain ⟨H, hH⟩ : ∃ H, H = zbi ws t m := ⟨_, rfl⟩
 have HH : Hid (zbi ws t m = H) := hH.symm
 rw [<- hH] at hmod hh0 hh1
 clear hx hv k1 hK ht0 hi0 hH
 go_enter Tryz.func130, Tryz.ntmps130
 go_wp2_with fail
 refine (zte _ _ _ _ _ _ _ _ _ _ _ _ _ _ _ t m _ (zas (zas hs _) _) (zc6 (zc6 hb)) (fun i hi => zx (zc6 hb) (zx hb (hc i hi))) hn hw HV.out HT0.out HK1.out).mono ?_
 rw [HH.out]
 rintro e w1 ⟨rfl, b1⟩
 obtain ⟨c1, c2⟩ := zhw b1
 have z1 := zeh b1
 have B1 := zae b1
 have S1 := hs.below B1
 obtain ⟨lb1, C1⟩ := zh hb hc B1
 clear b1 hs hc
 go_wp2
 clear hmod
 go_loopw [10, 11] (fun u10 u11 wr => ∃ k i : Nat, k <= n /\ i < n /\ u11 = .int .i64 k /\ u10 = .int .i64 i /\ zcp ws B n t m n i0 = zcp ws B n t m (n - k) i /\ Below w1.heap.size w1 wr) (fun _ u11 _ => n - (intOf u11).toNat)
 case atStart => exact ⟨0, i0, Nat.zero_le _, hi0n, rfl, rfl, rfl, Below.refl _ _⟩
 case round =>
  obtain ⟨k, i, hk, hi, rfl, rfl, hF, hB⟩ := hrel
  have HF2 : Hid (zcp ws B n t m n i0 = zcp ws B n t m (n - k) i) := hF
  clear hF
  have lwr := hB.size
  by_cases hlt : k < n
  · have hlt' : (k : Int) < (n : Int) := by omega
    have hi' : (i : Int) < (n : Int) := by omega
    obtain ⟨j, hj⟩ : ∃ j : Nat, j = (i + 1) % n := ⟨_, rfl⟩
    have hjn : j < n := by rw [hj]; exact Nat.mod_lt _ hn0
    have hjm : ((i : Int) + 1).tmod (n : Int) = (j : Int) := by rw [Int.tmod_eq_emod_of_nonneg (by omega), hj]; exact zhc (h := (i : Int) + 1) (by omega) n
    have hst : Hid (zcp ws B n t m (n - k) i = if kT ws B i = 0 then ((i : Int), false) else if zch ws (kT ws B i) (kN ws B i) t m = true then ((i : Int), true) else zcp ws B n t m (n - (k + 1)) j) := by
     show zcp ws B n t m (n - k) i = _
     rw [hj, show n - k = (n - (k + 1)) + 1 by omega]; rfl
    clear hj
    have KA := ze c1 hB (by omega)
    have KB := ze c2 hB (by omega)
    have SR := S1.below hB
    obtain ⟨lbr, CR⟩ := zh lb1 C1 hB
    have hky : B + 1 + 4 * i + 1 < ws.length := by have := HKS.out.1; omega
    have HKi : Hid (zd2 ws (kT ws B i) (kN ws B i)) := HKS.out.2 i hi
    go_upto_region 8 with (go_at_call 129; refine (zmj _ _ _ _ _ _ _ _ _ _ _ _ _ _ _ _ B i _ HX.out rfl SR hn hw hky).mono ?_; rintro e w2 ⟨rfl, b2⟩)
    have e1 : rvT ws (B + 1 + 4 * i) = kT ws B i := rfl
    have e2 : rvN ws (B + 1 + 4 * i) = kN ws B i := rfl
    rw [e1, e2]
    clear e1 e2
    generalize kT ws B i = tk at *
    generalize kN ws B i = mk at *
    have l0 : w.heap.size < wr.heap.size := by omega
    have l1 : w.heap.size + 1 < wr.heap.size := by omega
    have KA2 := ze KA b2 l0
    have KB2 := ze KB b2 l1
    have l0' : w.heap.size < w2.heap.size := Nat.lt_of_lt_of_le l0 b2.size
    have l1' : w.heap.size + 1 < w2.heap.size := Nat.lt_of_lt_of_le l1 b2.size
    have hB2 := zc hB b2
    have hB3 : Below w1.heap.size w1 (w2.alloc (.cells #[.int .i64 tk, .int .i64 mk] 48)) := hB2.alloc hB2.size _
    have B3 := zc B1 hB3
    have SR2 := S1.below hB3
    obtain ⟨lb3, C3⟩ := zh lb1 C1 hB3
    clear KA KB c1 c2 SR CR lbr hb lb1
    by_cases hz : tk = 0
    · have e0 : (tk == 0) = true := by simpa using hz
      have hst := hst.out
      rw [if_pos hz] at hst
      have hend := HF.out.trans (HF2.out.trans hst)
      have HE : Hid (zdr ws B n t m = ((i : Int), false)) := hend
      clear hst hend hz S1 C1 C3
      go_wp2
      go_ret2
      rw [HE.out]
      exact ⟨rfl, B3⟩
    · have e0 : (tk == 0) = false := by simpa using hz
      have hst := hst.out
      rw [if_neg hz] at hst
      clear hz
      by_cases hsm : zch ws tk mk t m = true
      · rw [if_pos hsm] at hst
        have HE : Hid (zdr ws B n t m = ((i : Int), true)) := HF.out.trans (HF2.out.trans hst)
        clear hst
        go_wp2_with (go_at_call 162; refine (zld _ _ _ _ _ _ _ _ _ _ _ _ _ _ _ tk mk t m _ SR2 lb3 C3 hn hw HKi.out HK1.out).mono ?_; rw [hsm]; rintro e w4 ⟨rfl, b4⟩)
        go_ret2
        rw [HE.out]
        exact ⟨rfl, zc B3 b4⟩
      · rw [if_neg hsm] at hst
        rw [Bool.not_eq_true] at hsm
        have HE : Hid (zcp ws B n t m n i0 = zcp ws B n t m (n - (k + 1)) j) := HF2.out.trans hst
        clear hst
        go_wp2_with (go_at_call 162; refine (zld _ _ _ _ _ _ _ _ _ _ _ _ _ _ _ tk mk t m _ SR2 lb3 C3 hn hw HKi.out HK1.out).mono ?_; rw [hsm]; rintro e w4 ⟨rfl, b4⟩)
        first
         | (refine ⟨⟨k + 1, j, hlt, hjn, by go_num, rfl, HE.out, zc hB3 b4⟩, by simp [intOf]; omega⟩)
         | (go_roundw
            case rel => exact ⟨k + 1, j, hlt, hjn, by go_num, rfl, HE.out, zc hB3 b4⟩
            case measure => simp [intOf]; omega)
  · obtain rfl : k = n := by omega
    have HE : Hid (zdr ws B k t m = (-1, false)) := HF.out.trans (HF2.out.trans (by rw [Nat.sub_self]; rfl))
    go_wp2
    go_ret2
    rw [HE.out]
    exact ⟨rfl, zc B1 hB⟩
end Go.Proofs.YtmckcnmlhgpnhaaGreat
