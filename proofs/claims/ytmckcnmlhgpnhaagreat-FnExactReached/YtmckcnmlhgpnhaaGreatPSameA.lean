/- - -/
import Derived.Test.YtmckcnmlhgpnhaaGreatPReadsB
import Derived.Laws.IdiomStrings
import Derived.Test.YtmckcnmlhgpnhaaGreatPArnA
import Derived.Deep.CutBlock
namespace Go.Proofs.YtmckcnmlhgpnhaaGreat
set_option maxRecDepth 20000
open Go.RowKit
set_option linter.unusedSimpArgs false
set_option linter.unusedVariables false
def zdt (ws : List Int) (p i : Nat) : Nat := (za ws (p + 2 + i / 8)).toNat / 2 ^ (8 * (i % 8)) % 256
def zaf (ws : List Int) (p : Nat) : Nat := (za ws (p + 1)).toNat
def zc4 (ws : List Int) (p : Nat) : List UInt8 := (List.range (zaf ws p)).map fun i => UInt8.ofNat (zdt ws p i)
def txt (ws : List Int) (p : Nat) : ByteArray := ⟨(zc4 ws p).toArray⟩
theorem zfw (ws : List Int) (p i : Nat) : zdt ws p i < 256 := Nat.mod_lt _ (by decide)
theorem zd6 (ws : List Int) (p : Nat) : (zc4 ws p).length = zaf ws p := by simp [zc4]
theorem zjk (ws : List Int) (p j : Nat) (hj : j < (zc4 ws p).length) : ((zc4 ws p)[j].toNat : Int) = zdt ws p j := by
 simp [zc4, Nat.mod_eq_of_lt (zfw ws p j)]
theorem zud : (Tryz.prog.info? 5).map (fun i => (i.zero, i.size, i.bytes)) = some (some (.int .u8 0), 1, 1) := by kernel_rfl
theorem zc8 {wr w1 : World} {t : TypeId} {n k : Nat} {f : Nat -> Nat} {v : Int} (hR : wr.rowIs w1.heap.size t n (fun j => if j < k then .int .u8 (f j) else .int .u8 0)) (hB : Below w1.heap.size w1 wr) (e : v = (f k : Int)) :
 (wr.setCell ⟨w1.heap.size, k, none⟩ (.int .u8 v)).rowIs w1.heap.size t n (fun j => if j < k + 1 then .int .u8 (f j) else .int .u8 0) /\ Below w1.heap.size w1 (wr.setCell ⟨w1.heap.size, k, none⟩ (.int .u8 v)) := by
 refine ⟨(hR.set k _).congr fun i _ => ?_, hB.setCell (Nat.le_refl _) _⟩
 by_cases h1 : i = k
 · subst h1; simp [e]
 · by_cases h2 : i < k
   · simp [h1, h2, show i < k + 1 by omega]
   · simp [h1, h2, show ¬ i < k + 1 by omega]
theorem zg7 (b off : Nat) (cw : Nat) (ws : List Int) (smz toh top : Int) (cyc : Bool) (sn old cpz sr : Int) (ar : Option Addr) (cr : Nat) (rs : List (Int × Int)) (x : Int) (p n : Nat) (w : World) (hx : x = p) (hs : Sl w (.slice (some ⟨b, off, none⟩) ws.length cw) ws) (hb : b < w.heap.size) (hc : ∀ i, i < ws.length -> w.cell? ⟨b, off + i, none⟩ = some (.int .u64 (za ws i))) (hn : ws.length <= 1048576) (hw : zi ws) (hz : za ws (p + 1) = n) (hn1 : n <= 160) (h : p + 1 + (n + 7) / 8 < ws.length) :
 Calls Tryz.prog 194 #[.agg #[.slice (some ⟨b, off, none⟩) ws.length cw, .int .i64 smz, .int .i64 toh, .int .i64 top, .bool cyc, .int .i64 sn, .int .i64 old, .int .i64 cpz, .int .i64 sr, .slice ar rs.length cr], .int .i64 x] w fun e w' => e = .returned (.string (txt ws p)) /\ Below w.heap.size w w' := by
 have x0 : 0 <= x := by omega
 have x1 : x <= 1048576 := by omega
 have hN : zaf ws p = n := by unfold zaf; omega
 have HX : Hid (x = (p : Int)) := hx
 have HZ : Hid (wrap64 (za ws (p + 1)) = (n : Int)) := by show wrap64 (za ws (p + 1)) = (n : Int); rw [hz]; exact zaz (by omega) (by omega)
 clear hx hz
 have hn' : (ws.length : Int) <= 1048576 := by omega
 have hn1' : (n : Int) <= 160 := by omega
 have hmk := fun (w : World) => run_make_row' (P := Tryz.prog) 54 5 (.int .u8 0) 1 Tryz.underlying54 zud rfl .i64 .i64 n (by omega) (by omega) w
 go_enter Tryz.func194, Tryz.ntmps194
 go_wp2_with fail
 refine (zch _ _ _ _ _ _ _ _ _ _ _ _ _ _ _ _ (n : Int) p 1 _ HX.out rfl HZ.out (zam hs _) hn (by omega)).mono ?_
 rintro e w1 ⟨rfl, b1⟩
 obtain ⟨k0, k1, k2, k3, k4, k5, k6, k7, k8, k9⟩ := zbo b1
 have z1 := zp b1
 have B1 := zd b1
 clear b1 k1 k2 k3 k4 k5 k6 k7 k8 k9
 go_wp2
 go_loopw [7] (fun u7 wr => ∃ k : Nat, k <= n /\ u7 = .int .i64 k /\ wr.rowIs w1.heap.size 5 n (fun j => if j < k then .int .u8 (zdt ws p j) else .int .u8 0) /\ Below w1.heap.size w1 wr) (fun u7 _ => n - (intOf u7).toNat)
 case atStart => exact ⟨0, Nat.zero_le _, rfl, (World.rowIs_made w1 (.int .u8 0) n 5).congr (fun i _ => by simp), (Below.refl _ _).alloc (Nat.le_refl _) _⟩
 case round =>
  obtain ⟨k, hk, rfl, hR, hB⟩ := hrel
  have lwr := hB.size
  have k0r : wr.cell? ⟨w.heap.size, 0, none⟩ = some (.slice (some ⟨b, off, none⟩) ws.length cw) := by rw [hB.cell (p := ⟨w.heap.size, 0, none⟩) z1]; exact k0
  by_cases hlt : k < n
  · have hlt' : (k : Int) < (n : Int) := by omega
    have q : wr.cell? ⟨b, off + (p + 2 + k / 8), none⟩ = some (.int .u64 (za ws (p + 2 + k / 8))) := by
     rw [hB.cell (p := ⟨b, off + (p + 2 + k / 8), none⟩) (by show b < w1.heap.size; omega), B1.cell (p := ⟨b, off + (p + 2 + k / 8), none⟩) hb]
     exact hc _ (by omega)
    have hw1 := zu hw (p + 2 + k / 8)
    have hd : (k : Int).tdiv 8 = ((k / 8 : Nat) : Int) := by rw [Int.tdiv_eq_ediv_of_nonneg (by omega)]; omega
    have hm := Int.tmod_eq_emod_of_nonneg (a := (k : Int)) (b := 8) (by omega)
    have hBy : zdt ws p k = (za ws (p + 2 + k / 8)).toNat / 2 ^ (8 * (k % 8)) % 256 := rfl
    have h8 : k % 8 = 0 \/ k % 8 = 1 \/ k % 8 = 2 \/ k % 8 = 3 \/ k % 8 = 4 \/ k % 8 = 5 \/ k % 8 = 6 \/ k % 8 = 7 := by omega
    have hdp : p + 2 + k / 8 < ws.length := by omega
    generalize za ws (p + 2 + k / 8) = Y at *
    generalize k / 8 = d at *
    obtain ⟨y0, y1⟩ := hw1
    have i0 : 0 <= x + 2 + (d : Int) := by omega
    have i1 : x + 2 + (d : Int) < (ws.length : Int) := by have := HX.out; omega
    have i2 : (x + 2 + (d : Int)).toNat = p + 2 + d := by have := HX.out; omega
    have i3 : (d : Int) <= 1048576 := by have := HX.out; omega
    have g1 := hR.cell (i := k) hlt
    rw [if_neg (Nat.lt_irrefl k)] at g1
    have g2 := hR.frozen k
    clear hc HZ hmk
    rcases h8 with e | e | e | e | e | e | e | e
    · have hm' : (k : Int).tmod 8 = 0 := by omega
      rw [e] at hBy
      clear hm e
      simp only [Nat.reduceMul, Nat.reducePow] at hBy
      go_wp2
      refine ⟨⟨k + 1, by omega, by go_num, ?_⟩, by simp [intOf]; omega⟩
      refine zc8 hR hB ?_
      rw [hBy]
      clear hBy
      go_light
      omega
    · have hm' : (k : Int).tmod 8 = 1 := by omega
      rw [e] at hBy
      clear hm e
      simp only [Nat.reduceMul, Nat.reducePow] at hBy
      go_wp2
      refine ⟨⟨k + 1, by omega, by go_num, ?_⟩, by simp [intOf]; omega⟩
      refine zc8 hR hB ?_
      rw [hBy]
      clear hBy
      go_light
      omega
    · have hm' : (k : Int).tmod 8 = 2 := by omega
      rw [e] at hBy
      clear hm e
      simp only [Nat.reduceMul, Nat.reducePow] at hBy
      go_wp2
      refine ⟨⟨k + 1, by omega, by go_num, ?_⟩, by simp [intOf]; omega⟩
      refine zc8 hR hB ?_
      rw [hBy]
      clear hBy
      go_light
      omega
    · have hm' : (k : Int).tmod 8 = 3 := by omega
      rw [e] at hBy
      clear hm e
      simp only [Nat.reduceMul, Nat.reducePow] at hBy
      go_wp2
      refine ⟨⟨k + 1, by omega, by go_num, ?_⟩, by simp [intOf]; omega⟩
      refine zc8 hR hB ?_
      rw [hBy]
      clear hBy
      go_light
      omega
    · have hm' : (k : Int).tmod 8 = 4 := by omega
      rw [e] at hBy
      clear hm e
      simp only [Nat.reduceMul, Nat.reducePow] at hBy
      go_wp2
      refine ⟨⟨k + 1, by omega, by go_num, ?_⟩, by simp [intOf]; omega⟩
      refine zc8 hR hB ?_
      rw [hBy]
      clear hBy
      go_light
      omega
    · have hm' : (k : Int).tmod 8 = 5 := by omega
      rw [e] at hBy
      clear hm e
      simp only [Nat.reduceMul, Nat.reducePow] at hBy
      go_wp2
      refine ⟨⟨k + 1, by omega, by go_num, ?_⟩, by simp [intOf]; omega⟩
      refine zc8 hR hB ?_
      rw [hBy]
      clear hBy
      go_light
      omega
    · have hm' : (k : Int).tmod 8 = 6 := by omega
      rw [e] at hBy
      clear hm e
      simp only [Nat.reduceMul, Nat.reducePow] at hBy
      go_wp2
      refine ⟨⟨k + 1, by omega, by go_num, ?_⟩, by simp [intOf]; omega⟩
      refine zc8 hR hB ?_
      rw [hBy]
      clear hBy
      go_light
      omega
    · have hm' : (k : Int).tmod 8 = 7 := by omega
      rw [e] at hBy
      clear hm e
      simp only [Nat.reduceMul, Nat.reducePow] at hBy
      go_wp2
      refine ⟨⟨k + 1, by omega, by go_num, ?_⟩, by simp [intOf]; omega⟩
      refine zc8 hR hB ?_
      rw [hBy]
      clear hBy
      go_light
      omega
  · obtain rfl : k = n := by omega
    have hcv := run_convert_bytes_back (P := Tryz.prog) wr 54 9 5 ⟨w1.heap.size, 0, none⟩ k (zc4 ws p) Tryz.underlying54 Tryz.underlying5 Tryz.underlying9 (fun j hj => by
     have hj' : j < k := by rw [zd6, hN] at hj; exact hj
     rw [Addr.add_lit, Nat.zero_add, hR.cell hj', zjk]
     simp [hj'])
    rw [zd6, hN] at hcv
    go_wp2
    go_ret
    exact ⟨rfl, zc B1 hB⟩
def zfk (ws : List Int) (q : Nat) : Prop := za ws (q + 1) <= 160 /\ q + 1 + (zaf ws q + 7) / 8 < ws.length
def zdq (ws : List Int) (t m : Int) : Prop :=
 (isR t = true -> 0 <= m /\ m < ws.length /\ 0 <= zh ws m.toNat /\ zh ws m.toNat < ws.length) /\ (t = 3 -> zfk ws (zh ws m.toNat).toNat)
def zb6 (ws : List Int) (t m t2 m2 : Int) : Bool :=
 if t = t2 then (if isR t = true then (if t = 3 then ((txt ws (zh ws m.toNat).toNat).toList == (txt ws (zh ws m2.toNat).toNat).toList) else (zh ws m.toNat == zh ws m2.toNat)) else (m == m2)) else false
theorem za0 {w W : World} {A B C : Array Value} {ta tb tc : TypeId} (hB : Below (((w.alloc (.cells A ta)).alloc (.cells B tb)).alloc (.cells C tc)).heap.size (((w.alloc (.cells A ta)).alloc (.cells B tb)).alloc (.cells C tc)) W) :
 (∀ i, W.cell? ⟨w.heap.size, i, none⟩ = A[i]?) /\ (∀ i, W.cell? ⟨w.heap.size + 1, i, none⟩ = B[i]?) /\ (∀ i, W.cell? ⟨w.heap.size + 1 + 1, i, none⟩ = C[i]?) := by
 refine ⟨fun i => ?_, fun i => ?_, fun i => ?_⟩
 · rw [hB.cell (p := ⟨w.heap.size, i, none⟩) (by simp; omega)]; simp [go_sem]
 · rw [hB.cell (p := ⟨w.heap.size + 1, i, none⟩) (by simp)]; simp [go_sem]
 · rw [hB.cell (p := ⟨w.heap.size + 1 + 1, i, none⟩) (by simp)]; simp [go_sem]
theorem za1 {w W : World} {o o2 o3 : Obj} (hB : Below (((w.alloc o).alloc o2).alloc o3).heap.size (((w.alloc o).alloc o2).alloc o3) W) : Below w.heap.size w W :=
 zc ((((Below.refl w.heap.size w).alloc (Nat.le_refl _) o).alloc (by simp) o2).alloc (by simp; omega) o3) hB
theorem zm2 (aw : Option Addr) (cw : Nat) (ws : List Int) (smz toh top : Int) (cyc : Bool) (sn old cpz sr : Int) (ar : Option Addr) (cr : Nat) (rs : List (Int × Int)) (t m t2 m2 : Int) (w : World) (h : ¬ t = t2) :
 Calls Tryz.prog 162 #[.agg #[.slice aw ws.length cw, .int .i64 smz, .int .i64 toh, .int .i64 top, .bool cyc, .int .i64 sn, .int .i64 old, .int .i64 cpz, .int .i64 sr, .slice ar rs.length cr], .agg #[.int .i64 t, .int .i64 m], .agg #[.int .i64 t2, .int .i64 m2]] w fun e w' => e = .returned (.bool false) /\ Below w.heap.size w w' := by
 have e : (t != t2) = true := by simpa using h
 go_enter Tryz.func162, Tryz.ntmps162
 go_wp2
 go_ret
 exact ⟨rfl, za1 (Below.refl _ _)⟩
theorem zlf (aw : Option Addr) (cw : Nat) (ws : List Int) (smz toh top : Int) (cyc : Bool) (sn old cpz sr : Int) (ar : Option Addr) (cr : Nat) (rs : List (Int × Int)) (t m m2 : Int) (w : World) (h : isR t = false) :
 Calls Tryz.prog 162 #[.agg #[.slice aw ws.length cw, .int .i64 smz, .int .i64 toh, .int .i64 top, .bool cyc, .int .i64 sn, .int .i64 old, .int .i64 cpz, .int .i64 sr, .slice ar rs.length cr], .agg #[.int .i64 t, .int .i64 m], .agg #[.int .i64 t, .int .i64 m2]] w fun e w' => e = .returned (.bool (m == m2)) /\ Below w.heap.size w w' := by
 go_enter Tryz.func162, Tryz.ntmps162
 go_wp2_with (go_at_call 42; refine (zak _ _ _).mono ?_; rintro e w1 ⟨rfl, b1⟩; obtain ⟨c1, c2, c3⟩ := za0 b1)
 go_ret
 exact ⟨rfl, za1 b1⟩
set_option maxHeartbeats 2000000 in
theorem zlg (aw : Option Addr) (cw : Nat) (ws : List Int) (smz toh top : Int) (cyc : Bool) (sn old cpz sr : Int) (ar : Option Addr) (cr : Nat) (rs : List (Int × Int)) (t m t2 m2 : Int) (P Q : Nat) (w : World) (he : (t != t2) = false) (h : isR t = true) (h3 : ¬ t = 3) (hs : Sl w (.slice aw ws.length cw) ws) (hn : ws.length <= 1048576) (hw : zi ws) (hP : m = P) (hQ : m2 = Q) (hP1 : P < ws.length) (hQ1 : Q < ws.length) :
 Calls Tryz.prog 162 #[.agg #[.slice aw ws.length cw, .int .i64 smz, .int .i64 toh, .int .i64 top, .bool cyc, .int .i64 sn, .int .i64 old, .int .i64 cpz, .int .i64 sr, .slice ar rs.length cr], .agg #[.int .i64 t, .int .i64 m], .agg #[.int .i64 t2, .int .i64 m2]] w fun e w' => e = .returned (.bool (zh ws P == zh ws Q)) /\ Below w.heap.size w w' := by
 have HP : Hid (m = (P : Int)) := hP
 have HQ : Hid (m2 = (Q : Int)) := hQ
 have e3 : (t == 3) = false := by simpa using h3
 clear hP hQ h3
 have KP : ∀ W, Below (((w.alloc (.cells #[.slice aw ws.length cw, .int .i64 smz, .int .i64 toh, .int .i64 top, .bool cyc, .int .i64 sn, .int .i64 old, .int .i64 cpz, .int .i64 sr, .slice ar rs.length cr] 30)).alloc (.cells #[.int .i64 t, .int .i64 m] 48)).alloc (.cells #[.int .i64 t2, .int .i64 m2] 48)).heap.size (((w.alloc (.cells #[.slice aw ws.length cw, .int .i64 smz, .int .i64 toh, .int .i64 top, .bool cyc, .int .i64 sn, .int .i64 old, .int .i64 cpz, .int .i64 sr, .slice ar rs.length cr] 30)).alloc (.cells #[.int .i64 t, .int .i64 m] 48)).alloc (.cells #[.int .i64 t2, .int .i64 m2] 48)) W -> (Below (((w.alloc (.cells #[.slice aw ws.length cw, .int .i64 smz, .int .i64 toh, .int .i64 top, .bool cyc, .int .i64 sn, .int .i64 old, .int .i64 cpz, .int .i64 sr, .slice ar rs.length cr] 30)).alloc (.cells #[.int .i64 t, .int .i64 m] 48)).alloc (.cells #[.int .i64 t2, .int .i64 m2] 48)).heap.size (((w.alloc (.cells #[.slice aw ws.length cw, .int .i64 smz, .int .i64 toh, .int .i64 top, .bool cyc, .int .i64 sn, .int .i64 old, .int .i64 cpz, .int .i64 sr, .slice ar rs.length cr] 30)).alloc (.cells #[.int .i64 t, .int .i64 m] 48)).alloc (.cells #[.int .i64 t2, .int .i64 m2] 48)) W /\ (∀ i, W.cell? ⟨w.heap.size, i, none⟩ = (#[.slice aw ws.length cw, .int .i64 smz, .int .i64 toh, .int .i64 top, .bool cyc, .int .i64 sn, .int .i64 old, .int .i64 cpz, .int .i64 sr, .slice ar rs.length cr] : Array Value)[i]?) /\ (∀ i, W.cell? ⟨w.heap.size + 1, i, none⟩ = (#[.int .i64 t, .int .i64 m] : Array Value)[i]?) /\ (∀ i, W.cell? ⟨w.heap.size + 1 + 1, i, none⟩ = (#[.int .i64 t2, .int .i64 m2] : Array Value)[i]?)) := fun W hW => ⟨hW, za0 hW⟩
 have HS : ∀ W, Below (((w.alloc (.cells #[.slice aw ws.length cw, .int .i64 smz, .int .i64 toh, .int .i64 top, .bool cyc, .int .i64 sn, .int .i64 old, .int .i64 cpz, .int .i64 sr, .slice ar rs.length cr] 30)).alloc (.cells #[.int .i64 t, .int .i64 m] 48)).alloc (.cells #[.int .i64 t2, .int .i64 m2] 48)).heap.size (((w.alloc (.cells #[.slice aw ws.length cw, .int .i64 smz, .int .i64 toh, .int .i64 top, .bool cyc, .int .i64 sn, .int .i64 old, .int .i64 cpz, .int .i64 sr, .slice ar rs.length cr] 30)).alloc (.cells #[.int .i64 t, .int .i64 m] 48)).alloc (.cells #[.int .i64 t2, .int .i64 m2] 48)) W -> Sl W (.slice aw ws.length cw) ws := fun W hW => hs.below (za1 hW)
 go_enter Tryz.func162, Tryz.ntmps162
 go_wp2_with (go_at_call 42; refine (zak _ _ _).mono ?_; rintro e w1 ⟨rfl, b1⟩; obtain ⟨c1, c2, c3⟩ := za0 b1)
 go_cut [7, 8] from 22 to 29 (fun s7 s8 wc => s7 = .int .i64 (zh ws P) /\ s8 = .int .i64 (zh ws Q) /\ Below (((w.alloc (.cells #[.slice aw ws.length cw, .int .i64 smz, .int .i64 toh, .int .i64 top, .bool cyc, .int .i64 sn, .int .i64 old, .int .i64 cpz, .int .i64 sr, .slice ar rs.length cr] 30)).alloc (.cells #[.int .i64 t, .int .i64 m] 48)).alloc (.cells #[.int .i64 t2, .int .i64 m2] 48)).heap.size (((w.alloc (.cells #[.slice aw ws.length cw, .int .i64 smz, .int .i64 toh, .int .i64 top, .bool cyc, .int .i64 sn, .int .i64 old, .int .i64 cpz, .int .i64 sr, .slice ar rs.length cr] 30)).alloc (.cells #[.int .i64 t, .int .i64 m] 48)).alloc (.cells #[.int .i64 t2, .int .i64 m2] 48)) wc)
 case first =>
  have b1' := b1.drew
  clear c1 c2 c3 hs
  go_region_held3 (fun W => Below (((w.alloc (.cells #[.slice aw ws.length cw, .int .i64 smz, .int .i64 toh, .int .i64 top, .bool cyc, .int .i64 sn, .int .i64 old, .int .i64 cpz, .int .i64 sr, .slice ar rs.length cr] 30)).alloc (.cells #[.int .i64 t, .int .i64 m] 48)).alloc (.cells #[.int .i64 t2, .int .i64 m2] 48)).heap.size (((w.alloc (.cells #[.slice aw ws.length cw, .int .i64 smz, .int .i64 toh, .int .i64 top, .bool cyc, .int .i64 sn, .int .i64 old, .int .i64 cpz, .int .i64 sr, .slice ar rs.length cr] 30)).alloc (.cells #[.int .i64 t, .int .i64 m] 48)).alloc (.cells #[.int .i64 t2, .int .i64 m2] 48)) W /\ (∀ i, W.cell? ⟨w.heap.size, i, none⟩ = (#[.slice aw ws.length cw, .int .i64 smz, .int .i64 toh, .int .i64 top, .bool cyc, .int .i64 sn, .int .i64 old, .int .i64 cpz, .int .i64 sr, .slice ar rs.length cr] : Array Value)[i]?) /\ (∀ i, W.cell? ⟨w.heap.size + 1, i, none⟩ = (#[.int .i64 t, .int .i64 m] : Array Value)[i]?) /\ (∀ i, W.cell? ⟨w.heap.size + 1 + 1, i, none⟩ = (#[.int .i64 t2, .int .i64 m2] : Array Value)[i]?)) (first | exact KP _ (by assumption) | exact KP _ b1') (first | (go_at_call_of 46 m; refine (zb3 _ _ _ _ _ _ _ _ _ _ _ _ _ _ m P _ HP.out (HS _ (And.left (by assumption))) hn hw hP1).mono ?_; rintro e w' ⟨rfl, hb⟩; have hB3 := zc (w := (((w.alloc (.cells #[.slice aw ws.length cw, .int .i64 smz, .int .i64 toh, .int .i64 top, .bool cyc, .int .i64 sn, .int .i64 old, .int .i64 cpz, .int .i64 sr, .slice ar rs.length cr] 30)).alloc (.cells #[.int .i64 t, .int .i64 m] 48)).alloc (.cells #[.int .i64 t2, .int .i64 m2] 48))) (And.left (by assumption)) hb; clear hb) | (go_at_call_of 46 m2; refine (zb3 _ _ _ _ _ _ _ _ _ _ _ _ _ _ m2 Q _ HQ.out (HS _ (And.left (by assumption))) hn hw hQ1).mono ?_; rintro e w' ⟨rfl, hb⟩; have hB3 := zc (w := (((w.alloc (.cells #[.slice aw ws.length cw, .int .i64 smz, .int .i64 toh, .int .i64 top, .bool cyc, .int .i64 sn, .int .i64 old, .int .i64 cpz, .int .i64 sr, .slice ar rs.length cr] 30)).alloc (.cells #[.int .i64 t, .int .i64 m] 48)).alloc (.cells #[.int .i64 t2, .int .i64 m2] 48))) (And.left (by assumption)) hb; clear hb))
  all_goals (go_wp2_with fail; go_meet; exact ⟨rfl, rfl, And.left (by assumption)⟩)
 case rest =>
  obtain ⟨rfl, rfl, hBc⟩ := hcut
  obtain ⟨d1, d2, d3⟩ := za0 hBc
  clear c1 c2 c3 KP HS
  go_wp2
  go_ret
  exact ⟨rfl, za1 hBc⟩
theorem zg {b off : Nat} {w W : World} {ws : List Int} (hb : b < w.heap.size) (hc : ∀ i, i < ws.length -> w.cell? ⟨b, off + i, none⟩ = some (.int .u64 (za ws i))) (hB : Below w.heap.size w W) : b < W.heap.size /\ ∀ i, i < ws.length -> W.cell? ⟨b, off + i, none⟩ = some (.int .u64 (za ws i)) :=
 ⟨Nat.lt_of_lt_of_le hb hB.size, fun i hi => by rw [hB.cell (p := ⟨b, off + i, none⟩) hb]; exact hc i hi⟩
set_option maxHeartbeats 2000000 in
theorem zm3 (b off cw : Nat) (ws : List Int) (smz toh top : Int) (cyc : Bool) (sn old cpz sr : Int) (ar : Option Addr) (cr : Nat) (rs : List (Int × Int)) (t m t2 m2 : Int) (P Q P' Q' : Nat) (w : World) (he : (t != t2) = false) (h : isR t = true) (e3 : (t == 3) = true) (hs : Sl w (.slice (some ⟨b, off, none⟩) ws.length cw) ws) (hb : b < w.heap.size) (hc : ∀ i, i < ws.length -> w.cell? ⟨b, off + i, none⟩ = some (.int .u64 (za ws i))) (hn : ws.length <= 1048576) (hw : zi ws) (hP : m = P) (hQ : m2 = Q) (hP1 : P < ws.length) (hQ1 : Q < ws.length) (hP' : zh ws P = P') (hQ' : zh ws Q = Q') (tP : zfk ws P') (tQ : zfk ws Q') :
 Calls Tryz.prog 162 #[(.agg #[.slice (some ⟨b, off, none⟩) ws.length cw, .int .i64 smz, .int .i64 toh, .int .i64 top, .bool cyc, .int .i64 sn, .int .i64 old, .int .i64 cpz, .int .i64 sr, .slice ar rs.length cr]), .agg #[.int .i64 t, .int .i64 m], .agg #[.int .i64 t2, .int .i64 m2]] w fun e w' => e = .returned (.bool ((txt ws P').toList == (txt ws Q').toList)) /\ Below w.heap.size w w' := by
 have HP : Hid (m = (P : Int)) := hP
 have HQ : Hid (m2 = (Q : Int)) := hQ
 have HP' : Hid (zh ws P = (P' : Int)) := hP'
 have HQ' : Hid (zh ws Q = (Q' : Int)) := hQ'
 have wP := (zu hw (P' + 1)).1
 have wQ := (zu hw (Q' + 1)).1
 have nP : Hid (za ws (P' + 1) = (zaf ws P' : Int)) := by show za ws (P' + 1) = (zaf ws P' : Int); unfold zaf; omega
 have nQ : Hid (za ws (Q' + 1) = (zaf ws Q' : Int)) := by show za ws (Q' + 1) = (zaf ws Q' : Int); unfold zaf; omega
 have n1P : zaf ws P' <= 160 := by have := tP.1; unfold zaf; omega
 have n1Q : zaf ws Q' <= 160 := by have := tQ.1; unfold zaf; omega
 have n2P := tP.2
 have n2Q := tQ.2
 clear hP hQ hP' hQ' wP wQ tP tQ
 have KP : ∀ W, Below (((w.alloc (.cells #[.slice (some ⟨b, off, none⟩) ws.length cw, .int .i64 smz, .int .i64 toh, .int .i64 top, .bool cyc, .int .i64 sn, .int .i64 old, .int .i64 cpz, .int .i64 sr, .slice ar rs.length cr] 30)).alloc (.cells #[.int .i64 t, .int .i64 m] 48)).alloc (.cells #[.int .i64 t2, .int .i64 m2] 48)).heap.size (((w.alloc (.cells #[.slice (some ⟨b, off, none⟩) ws.length cw, .int .i64 smz, .int .i64 toh, .int .i64 top, .bool cyc, .int .i64 sn, .int .i64 old, .int .i64 cpz, .int .i64 sr, .slice ar rs.length cr] 30)).alloc (.cells #[.int .i64 t, .int .i64 m] 48)).alloc (.cells #[.int .i64 t2, .int .i64 m2] 48)) W -> (Below (((w.alloc (.cells #[.slice (some ⟨b, off, none⟩) ws.length cw, .int .i64 smz, .int .i64 toh, .int .i64 top, .bool cyc, .int .i64 sn, .int .i64 old, .int .i64 cpz, .int .i64 sr, .slice ar rs.length cr] 30)).alloc (.cells #[.int .i64 t, .int .i64 m] 48)).alloc (.cells #[.int .i64 t2, .int .i64 m2] 48)).heap.size (((w.alloc (.cells #[.slice (some ⟨b, off, none⟩) ws.length cw, .int .i64 smz, .int .i64 toh, .int .i64 top, .bool cyc, .int .i64 sn, .int .i64 old, .int .i64 cpz, .int .i64 sr, .slice ar rs.length cr] 30)).alloc (.cells #[.int .i64 t, .int .i64 m] 48)).alloc (.cells #[.int .i64 t2, .int .i64 m2] 48)) W /\ (∀ i, W.cell? ⟨w.heap.size, i, none⟩ = (#[.slice (some ⟨b, off, none⟩) ws.length cw, .int .i64 smz, .int .i64 toh, .int .i64 top, .bool cyc, .int .i64 sn, .int .i64 old, .int .i64 cpz, .int .i64 sr, .slice ar rs.length cr] : Array Value)[i]?) /\ (∀ i, W.cell? ⟨w.heap.size + 1, i, none⟩ = (#[.int .i64 t, .int .i64 m] : Array Value)[i]?) /\ (∀ i, W.cell? ⟨w.heap.size + 1 + 1, i, none⟩ = (#[.int .i64 t2, .int .i64 m2] : Array Value)[i]?)) := fun W hW => ⟨hW, za0 hW⟩
 have HS : ∀ W, Below (((w.alloc (.cells #[.slice (some ⟨b, off, none⟩) ws.length cw, .int .i64 smz, .int .i64 toh, .int .i64 top, .bool cyc, .int .i64 sn, .int .i64 old, .int .i64 cpz, .int .i64 sr, .slice ar rs.length cr] 30)).alloc (.cells #[.int .i64 t, .int .i64 m] 48)).alloc (.cells #[.int .i64 t2, .int .i64 m2] 48)).heap.size (((w.alloc (.cells #[.slice (some ⟨b, off, none⟩) ws.length cw, .int .i64 smz, .int .i64 toh, .int .i64 top, .bool cyc, .int .i64 sn, .int .i64 old, .int .i64 cpz, .int .i64 sr, .slice ar rs.length cr] 30)).alloc (.cells #[.int .i64 t, .int .i64 m] 48)).alloc (.cells #[.int .i64 t2, .int .i64 m2] 48)) W -> Sl W (.slice (some ⟨b, off, none⟩) ws.length cw) ws := fun W hW => hs.below (za1 hW)
 have HC : ∀ W, Below (((w.alloc (.cells #[.slice (some ⟨b, off, none⟩) ws.length cw, .int .i64 smz, .int .i64 toh, .int .i64 top, .bool cyc, .int .i64 sn, .int .i64 old, .int .i64 cpz, .int .i64 sr, .slice ar rs.length cr] 30)).alloc (.cells #[.int .i64 t, .int .i64 m] 48)).alloc (.cells #[.int .i64 t2, .int .i64 m2] 48)).heap.size (((w.alloc (.cells #[.slice (some ⟨b, off, none⟩) ws.length cw, .int .i64 smz, .int .i64 toh, .int .i64 top, .bool cyc, .int .i64 sn, .int .i64 old, .int .i64 cpz, .int .i64 sr, .slice ar rs.length cr] 30)).alloc (.cells #[.int .i64 t, .int .i64 m] 48)).alloc (.cells #[.int .i64 t2, .int .i64 m2] 48)) W -> b < W.heap.size /\ ∀ i, i < ws.length -> W.cell? ⟨b, off + i, none⟩ = some (.int .u64 (za ws i)) := fun W hW => zg hb hc (za1 hW)
 clear hc
 go_enter Tryz.func162, Tryz.ntmps162
 go_wp2_with (go_at_call 42; refine (zak _ _ _).mono ?_; rintro e w1 ⟨rfl, b1⟩; obtain ⟨c1, c2, c3⟩ := za0 b1)
 go_cut [7, 8] from 22 to 29 (fun s7 s8 wc => s7 = .int .i64 (zh ws P) /\ s8 = .int .i64 (zh ws Q) /\ Below (((w.alloc (.cells #[.slice (some ⟨b, off, none⟩) ws.length cw, .int .i64 smz, .int .i64 toh, .int .i64 top, .bool cyc, .int .i64 sn, .int .i64 old, .int .i64 cpz, .int .i64 sr, .slice ar rs.length cr] 30)).alloc (.cells #[.int .i64 t, .int .i64 m] 48)).alloc (.cells #[.int .i64 t2, .int .i64 m2] 48)).heap.size (((w.alloc (.cells #[.slice (some ⟨b, off, none⟩) ws.length cw, .int .i64 smz, .int .i64 toh, .int .i64 top, .bool cyc, .int .i64 sn, .int .i64 old, .int .i64 cpz, .int .i64 sr, .slice ar rs.length cr] 30)).alloc (.cells #[.int .i64 t, .int .i64 m] 48)).alloc (.cells #[.int .i64 t2, .int .i64 m2] 48)) wc)
 case first =>
  have b1' := b1.drew
  clear c1 c2 c3 hs HC
  go_region_held3 (fun W => Below (((w.alloc (.cells #[.slice (some ⟨b, off, none⟩) ws.length cw, .int .i64 smz, .int .i64 toh, .int .i64 top, .bool cyc, .int .i64 sn, .int .i64 old, .int .i64 cpz, .int .i64 sr, .slice ar rs.length cr] 30)).alloc (.cells #[.int .i64 t, .int .i64 m] 48)).alloc (.cells #[.int .i64 t2, .int .i64 m2] 48)).heap.size (((w.alloc (.cells #[.slice (some ⟨b, off, none⟩) ws.length cw, .int .i64 smz, .int .i64 toh, .int .i64 top, .bool cyc, .int .i64 sn, .int .i64 old, .int .i64 cpz, .int .i64 sr, .slice ar rs.length cr] 30)).alloc (.cells #[.int .i64 t, .int .i64 m] 48)).alloc (.cells #[.int .i64 t2, .int .i64 m2] 48)) W /\ (∀ i, W.cell? ⟨w.heap.size, i, none⟩ = (#[.slice (some ⟨b, off, none⟩) ws.length cw, .int .i64 smz, .int .i64 toh, .int .i64 top, .bool cyc, .int .i64 sn, .int .i64 old, .int .i64 cpz, .int .i64 sr, .slice ar rs.length cr] : Array Value)[i]?) /\ (∀ i, W.cell? ⟨w.heap.size + 1, i, none⟩ = (#[.int .i64 t, .int .i64 m] : Array Value)[i]?) /\ (∀ i, W.cell? ⟨w.heap.size + 1 + 1, i, none⟩ = (#[.int .i64 t2, .int .i64 m2] : Array Value)[i]?)) (first | exact KP _ (by assumption) | exact KP _ b1') (first | (go_at_call_of 46 m; refine (zb3 _ _ _ _ _ _ _ _ _ _ _ _ _ _ m P _ HP.out (HS _ (And.left (by assumption))) hn hw hP1).mono ?_; rintro e w' ⟨rfl, hb⟩; have hB3 := zc (w := (((w.alloc (.cells #[.slice (some ⟨b, off, none⟩) ws.length cw, .int .i64 smz, .int .i64 toh, .int .i64 top, .bool cyc, .int .i64 sn, .int .i64 old, .int .i64 cpz, .int .i64 sr, .slice ar rs.length cr] 30)).alloc (.cells #[.int .i64 t, .int .i64 m] 48)).alloc (.cells #[.int .i64 t2, .int .i64 m2] 48))) (And.left (by assumption)) hb; clear hb) | (go_at_call_of 46 m2; refine (zb3 _ _ _ _ _ _ _ _ _ _ _ _ _ _ m2 Q _ HQ.out (HS _ (And.left (by assumption))) hn hw hQ1).mono ?_; rintro e w' ⟨rfl, hb⟩; have hB3 := zc (w := (((w.alloc (.cells #[.slice (some ⟨b, off, none⟩) ws.length cw, .int .i64 smz, .int .i64 toh, .int .i64 top, .bool cyc, .int .i64 sn, .int .i64 old, .int .i64 cpz, .int .i64 sr, .slice ar rs.length cr] 30)).alloc (.cells #[.int .i64 t, .int .i64 m] 48)).alloc (.cells #[.int .i64 t2, .int .i64 m2] 48))) (And.left (by assumption)) hb; clear hb))
  all_goals (go_wp2_with fail; go_meet; exact ⟨rfl, rfl, And.left (by assumption)⟩)
 case rest =>
  obtain ⟨rfl, rfl, hBc⟩ := hcut
  obtain ⟨d1, d2, d3⟩ := za0 hBc
  clear c1 c2 c3
  go_wp2
  have b2' := hBc.drew
  clear d1 d2 d3
  go_region_held3 (fun W => Below (((w.alloc (.cells #[.slice (some ⟨b, off, none⟩) ws.length cw, .int .i64 smz, .int .i64 toh, .int .i64 top, .bool cyc, .int .i64 sn, .int .i64 old, .int .i64 cpz, .int .i64 sr, .slice ar rs.length cr] 30)).alloc (.cells #[.int .i64 t, .int .i64 m] 48)).alloc (.cells #[.int .i64 t2, .int .i64 m2] 48)).heap.size (((w.alloc (.cells #[.slice (some ⟨b, off, none⟩) ws.length cw, .int .i64 smz, .int .i64 toh, .int .i64 top, .bool cyc, .int .i64 sn, .int .i64 old, .int .i64 cpz, .int .i64 sr, .slice ar rs.length cr] 30)).alloc (.cells #[.int .i64 t, .int .i64 m] 48)).alloc (.cells #[.int .i64 t2, .int .i64 m2] 48)) W /\ (∀ i, W.cell? ⟨w.heap.size, i, none⟩ = (#[.slice (some ⟨b, off, none⟩) ws.length cw, .int .i64 smz, .int .i64 toh, .int .i64 top, .bool cyc, .int .i64 sn, .int .i64 old, .int .i64 cpz, .int .i64 sr, .slice ar rs.length cr] : Array Value)[i]?) /\ (∀ i, W.cell? ⟨w.heap.size + 1, i, none⟩ = (#[.int .i64 t, .int .i64 m] : Array Value)[i]?) /\ (∀ i, W.cell? ⟨w.heap.size + 1 + 1, i, none⟩ = (#[.int .i64 t2, .int .i64 m2] : Array Value)[i]?)) (first | exact KP _ (by assumption) | exact KP _ b2') (first | (go_at_call_of 194 (zh ws P); refine (zg7 _ _ _ _ _ _ _ _ _ _ _ _ _ _ _ _ P' (zaf ws P') _ HP'.out (HS _ (And.left (by assumption))) (HC _ (And.left (by assumption))).1 (HC _ (And.left (by assumption))).2 hn hw nP.out n1P n2P).mono ?_; rintro e w' ⟨rfl, hb⟩; have hB3 := zc (w := (((w.alloc (.cells #[.slice (some ⟨b, off, none⟩) ws.length cw, .int .i64 smz, .int .i64 toh, .int .i64 top, .bool cyc, .int .i64 sn, .int .i64 old, .int .i64 cpz, .int .i64 sr, .slice ar rs.length cr] 30)).alloc (.cells #[.int .i64 t, .int .i64 m] 48)).alloc (.cells #[.int .i64 t2, .int .i64 m2] 48))) (And.left (by assumption)) hb; clear hb) | (go_at_call_of 194 (zh ws Q); refine (zg7 _ _ _ _ _ _ _ _ _ _ _ _ _ _ _ _ Q' (zaf ws Q') _ HQ'.out (HS _ (And.left (by assumption))) (HC _ (And.left (by assumption))).1 (HC _ (And.left (by assumption))).2 hn hw nQ.out n1Q n2Q).mono ?_; rintro e w' ⟨rfl, hb⟩; have hB3 := zc (w := (((w.alloc (.cells #[.slice (some ⟨b, off, none⟩) ws.length cw, .int .i64 smz, .int .i64 toh, .int .i64 top, .bool cyc, .int .i64 sn, .int .i64 old, .int .i64 cpz, .int .i64 sr, .slice ar rs.length cr] 30)).alloc (.cells #[.int .i64 t, .int .i64 m] 48)).alloc (.cells #[.int .i64 t2, .int .i64 m2] 48))) (And.left (by assumption)) hb; clear hb))
  all_goals
   go_wp2
   go_ret
   exact ⟨rfl, za1 (by assumption)⟩
theorem zj2 (b off cw : Nat) (ws : List Int) (smz toh top : Int) (cyc : Bool) (sn old cpz sr : Int) (ar : Option Addr) (cr : Nat) (rs : List (Int × Int)) (t m t2 m2 : Int) (w : World) (hs : Sl w (.slice (some ⟨b, off, none⟩) ws.length cw) ws) (hb : b < w.heap.size) (hc : ∀ i, i < ws.length -> w.cell? ⟨b, off + i, none⟩ = some (.int .u64 (za ws i))) (hn : ws.length <= 1048576) (hw : zi ws) (k1 : zdq ws t m) (k2 : zdq ws t2 m2) :
 Calls Tryz.prog 162 #[(.agg #[.slice (some ⟨b, off, none⟩) ws.length cw, .int .i64 smz, .int .i64 toh, .int .i64 top, .bool cyc, .int .i64 sn, .int .i64 old, .int .i64 cpz, .int .i64 sr, .slice ar rs.length cr]), .agg #[.int .i64 t, .int .i64 m], .agg #[.int .i64 t2, .int .i64 m2]] w fun e w' => e = .returned (.bool (zb6 ws t m t2 m2)) /\ Below w.heap.size w w' := by
 by_cases h12 : t = t2
 · subst h12
   by_cases hr : isR t = true
   · obtain ⟨a1, a2, a3, a4⟩ := k1.1 hr
     obtain ⟨d1, d2, d3, d4⟩ := k2.1 hr
     obtain ⟨P, rfl⟩ := Int.eq_ofNat_of_zero_le a1
     obtain ⟨Q, rfl⟩ := Int.eq_ofNat_of_zero_le d1
     have tP := k1.2
     have tQ := k2.2
     simp only [Int.toNat_natCast] at a3 a4 d3 d4 tP tQ
     by_cases h3 : t = 3
     · obtain ⟨P', hP'⟩ := Int.eq_ofNat_of_zero_le a3
       obtain ⟨Q', hQ'⟩ := Int.eq_ofNat_of_zero_le d3
       have e : zb6 ws t P t Q = ((txt ws P').toList == (txt ws Q').toList) := by simp [zb6, hr, h3, hP', hQ']; simp [isR]
       rw [e]
       have tP := tP h3
       have tQ := tQ h3
       rw [hP', Int.toNat_natCast] at tP
       rw [hQ', Int.toNat_natCast] at tQ
       exact zm3 b off cw ws smz toh top cyc sn old cpz sr ar cr rs t P t Q P Q P' Q' w (by simp) hr (by simpa using h3) hs hb hc hn hw rfl rfl (by omega) (by omega) hP' hQ' tP tQ
     · have e : zb6 ws t P t Q = (zh ws P == zh ws Q) := by simp [zb6, hr, h3]
       rw [e]
       exact zlg _ _ _ _ _ _ _ _ _ _ _ _ _ _ t P t Q P Q w (by simp) hr h3 hs hn hw rfl rfl (by omega) (by omega)
   · rw [Bool.not_eq_true] at hr
     have e : zb6 ws t m t m2 = (m == m2) := by simp [zb6, hr]
     rw [e]
     exact zlf _ _ _ _ _ _ _ _ _ _ _ _ _ _ t m m2 w hr
 · have e : zb6 ws t m t2 m2 = false := by simp [zb6, h12]
   rw [e]
   exact zm2 _ _ _ _ _ _ _ _ _ _ _ _ _ _ t m t2 m2 w h12
end Go.Proofs.YtmckcnmlhgpnhaaGreat
