/- The model's texts: l4Text. -/
import Derived.Test.YtmckcnmlhgpnhaaGreatProg
import Derived.Test.YtmckcnmlhgpnhaaGreatKReadsB
import Derived.Test.YtmckcnmlhgpnhaaGreatKRowF
import Derived.Deep.OwnRows
import Derived.Laws.IdiomStrings
import Derived.Test.YtmckcnmlhgpnhaaGreatKArnA
import Derived.Deep.RegionHeld3
import Derived.Deep.CutRange
import Derived.Deep.CutBlock
import Derived.Test.YtmckcnmlhgpnhaaGreatKLeadsB
namespace Go.Proofs.YtmckcnmlhgpnhaaGreat
set_option maxRecDepth 20000
open Go.RowKit
set_option linter.unusedSimpArgs false
set_option linter.unusedVariables false

/-- The byte i of the text whose head stands at p. -/
def byteAt (ws : List Int) (p i : Nat) : Nat := (wordAt ws (p + 2 + i / 8)).toNat / 2 ^ (8 * (i % 8)) % 256
/-- How many bytes it has. -/
def txtN (ws : List Int) (p : Nat) : Nat := (wordAt ws (p + 1)).toNat
def txtL (ws : List Int) (p : Nat) : List UInt8 := (List.range (txtN ws p)).map fun i => UInt8.ofNat (byteAt ws p i)
def txt (ws : List Int) (p : Nat) : ByteArray := ⟨(txtL ws p).toArray⟩
theorem byteAt_lt (ws : List Int) (p i : Nat) : byteAt ws p i < 256 := Nat.mod_lt _ (by decide)
theorem txtL_length (ws : List Int) (p : Nat) : (txtL ws p).length = txtN ws p := by simp [txtL]
theorem txtL_at (ws : List Int) (p j : Nat) (hj : j < (txtL ws p).length) : ((txtL ws p)[j].toNat : Int) = byteAt ws p j := by
  simp [txtL, Nat.mod_eq_of_lt (byteAt_lt ws p j)]
theorem infoU8 : (Tryz.prog.info? 5).map (fun i => (i.zero, i.size, i.bytes)) = some (some (.int .u8 0), 1, 1) := by kernel_rfl

theorem shift_byte {x : Int} (r : Nat) (h0 : 0 ≤ x) : (x / 2 ^ (8 * r)) % 256 = ((x.toNat / 2 ^ (8 * r) % 256 : Nat) : Int) := by
  obtain ⟨n, rfl⟩ := Int.eq_ofNat_of_zero_le h0
  simp

theorem text_step {wr w1 : World} {t : TypeId} {n k : Nat} {f : Nat → Nat} {v : Int} (hR : wr.rowIs w1.heap.size t n (fun j => if j < k then .int .u8 (f j) else .int .u8 0)) (hB : Below w1.heap.size w1 wr) (e : v = (f k : Int)) :
    (wr.setCell ⟨w1.heap.size, k, none⟩ (.int .u8 v)).rowIs w1.heap.size t n (fun j => if j < k + 1 then .int .u8 (f j) else .int .u8 0) ∧ Below w1.heap.size w1 (wr.setCell ⟨w1.heap.size, k, none⟩ (.int .u8 v)) := by
  refine ⟨(hR.set k _).congr fun i _ => ?_, hB.setCell (Nat.le_refl _) _⟩
  by_cases h1 : i = k
  · subst h1; simp [e]
  · by_cases h2 : i < k
    · simp [h1, h2, show i < k + 1 by omega]
    · simp [h1, h2, show ¬ i < k + 1 by omega]
theorem l4Text_at (b off : Nat) (cw : Nat) (ws : List Int) (semi toh top : Int) (cyc : Bool) (scan old copied serial : Int) (ar : Option Addr) (cr : Nat) (rs : List (Int × Int)) (x : Int) (p n : Nat) (w : World) (hx : x = p) (hs : Sl w (.slice (some ⟨b, off, none⟩) ws.length cw) ws) (hb : b < w.heap.size) (hc : ∀ i, i < ws.length → w.cell? ⟨b, off + i, none⟩ = some (.int .u64 (wordAt ws i))) (hn : ws.length ≤ 1048576) (hw : Words64 ws) (hz : wordAt ws (p + 1) = n) (hn1 : n ≤ 160) (h : p + 1 + (n + 7) / 8 < ws.length) :
    Calls Tryz.prog 194 #[.agg #[.slice (some ⟨b, off, none⟩) ws.length cw, .int .i64 semi, .int .i64 toh, .int .i64 top, .bool cyc, .int .i64 scan, .int .i64 old, .int .i64 copied, .int .i64 serial, .slice ar rs.length cr], .int .i64 x] w fun e w' => e = .returned (.string (txt ws p)) ∧ Below w.heap.size w w' := by
  have x0 : 0 ≤ x := by omega
  have x1 : x ≤ 1048576 := by omega
  have hN : txtN ws p = n := by unfold txtN; omega
  have HX : Hid (x = (p : Int)) := hx
  have HZ : Hid (wrap64 (wordAt ws (p + 1)) = (n : Int)) := by show wrap64 (wordAt ws (p + 1)) = (n : Int); rw [hz]; exact word_wrap_small (by omega) (by omega)
  clear hx hz
  have hn' : (ws.length : Int) ≤ 1048576 := by omega
  have hn1' : (n : Int) ≤ 160 := by omega
  have hmk := fun (w : World) => run_make_row' (P := Tryz.prog) 54 5 (.int .u8 0) 1 Tryz.underlying54 infoU8 rfl .i64 .i64 n (by omega) (by omega) w
  go_enter Tryz.func194, Tryz.ntmps194
  go_wp2_with fail
  refine (l2Word_is _ _ _ _ _ _ _ _ _ _ _ _ _ _ _ _ (n : Int) p 1 _ HX.out rfl HZ.out (sl_alloc hs _) hn (by omega)).mono ?_
  rintro e w1 ⟨rfl, b1⟩
  obtain ⟨k0, k1, k2, k3, k4, k5, k6, k7, k8, k9⟩ := box_cells b1
  have z1 := size_first b1
  have B1 := below_first b1
  clear b1 k1 k2 k3 k4 k5 k6 k7 k8 k9
  go_wp2
  go_loopw [7] (fun u7 wr => ∃ k : Nat, k ≤ n ∧ u7 = .int .i64 k ∧ wr.rowIs w1.heap.size 5 n (fun j => if j < k then .int .u8 (byteAt ws p j) else .int .u8 0) ∧ Below w1.heap.size w1 wr) (fun u7 _ => n - (intOf u7).toNat)
  case atStart => exact ⟨0, Nat.zero_le _, rfl, (World.rowIs_made w1 (.int .u8 0) n 5).congr (fun i _ => by simp), (Below.refl _ _).alloc (Nat.le_refl _) _⟩
  case round =>
    obtain ⟨k, hk, rfl, hR, hB⟩ := hrel
    have lwr := hB.size
    have k0r : wr.cell? ⟨w.heap.size, 0, none⟩ = some (.slice (some ⟨b, off, none⟩) ws.length cw) := by rw [hB.cell (p := ⟨w.heap.size, 0, none⟩) z1]; exact k0
    by_cases hlt : k < n
    · have hlt' : (k : Int) < (n : Int) := by omega
      have q : wr.cell? ⟨b, off + (p + 2 + k / 8), none⟩ = some (.int .u64 (wordAt ws (p + 2 + k / 8))) := by
        rw [hB.cell (p := ⟨b, off + (p + 2 + k / 8), none⟩) (by show b < w1.heap.size; omega), B1.cell (p := ⟨b, off + (p + 2 + k / 8), none⟩) hb]
        exact hc _ (by omega)
      have hw1 := word_in hw (p + 2 + k / 8)
      have hd : (k : Int).tdiv 8 = ((k / 8 : Nat) : Int) := by rw [Int.tdiv_eq_ediv_of_nonneg (by omega)]; omega
      have hm := Int.tmod_eq_emod_of_nonneg (a := (k : Int)) (b := 8) (by omega)
      have hBy : byteAt ws p k = (wordAt ws (p + 2 + k / 8)).toNat / 2 ^ (8 * (k % 8)) % 256 := rfl
      have h8 : k % 8 = 0 ∨ k % 8 = 1 ∨ k % 8 = 2 ∨ k % 8 = 3 ∨ k % 8 = 4 ∨ k % 8 = 5 ∨ k % 8 = 6 ∨ k % 8 = 7 := by omega
      have hdp : p + 2 + k / 8 < ws.length := by omega
      generalize wordAt ws (p + 2 + k / 8) = Y at *
      generalize k / 8 = d at *
      obtain ⟨y0, y1⟩ := hw1
      have i0 : 0 ≤ x + 2 + (d : Int) := by omega
      have i1 : x + 2 + (d : Int) < (ws.length : Int) := by have := HX.out; omega
      have i2 : (x + 2 + (d : Int)).toNat = p + 2 + d := by have := HX.out; omega
      have i3 : (d : Int) ≤ 1048576 := by have := HX.out; omega
      have g1 := hR.cell (i := k) hlt
      rw [if_neg (Nat.lt_irrefl k)] at g1
      have g2 := hR.frozen k
      clear hc HZ hmk
      rcases h8 with e | e | e | e | e | e | e | e
      · have hm' : (k : Int).tmod 8 = 0 := by omega
        rw [e] at hBy
        clear hm e
        simp only [Nat.reduceMul, Nat.reducePow] at hBy
        go_wp2
        refine ⟨⟨k + 1, by omega, by go_num, ?_⟩, by simp [intOf]; omega⟩
        refine text_step hR hB ?_
        rw [hBy]
        clear hBy
        go_light
        omega
      · have hm' : (k : Int).tmod 8 = 1 := by omega
        rw [e] at hBy
        clear hm e
        simp only [Nat.reduceMul, Nat.reducePow] at hBy
        go_wp2
        refine ⟨⟨k + 1, by omega, by go_num, ?_⟩, by simp [intOf]; omega⟩
        refine text_step hR hB ?_
        rw [hBy]
        clear hBy
        go_light
        omega
      · have hm' : (k : Int).tmod 8 = 2 := by omega
        rw [e] at hBy
        clear hm e
        simp only [Nat.reduceMul, Nat.reducePow] at hBy
        go_wp2
        refine ⟨⟨k + 1, by omega, by go_num, ?_⟩, by simp [intOf]; omega⟩
        refine text_step hR hB ?_
        rw [hBy]
        clear hBy
        go_light
        omega
      · have hm' : (k : Int).tmod 8 = 3 := by omega
        rw [e] at hBy
        clear hm e
        simp only [Nat.reduceMul, Nat.reducePow] at hBy
        go_wp2
        refine ⟨⟨k + 1, by omega, by go_num, ?_⟩, by simp [intOf]; omega⟩
        refine text_step hR hB ?_
        rw [hBy]
        clear hBy
        go_light
        omega
      · have hm' : (k : Int).tmod 8 = 4 := by omega
        rw [e] at hBy
        clear hm e
        simp only [Nat.reduceMul, Nat.reducePow] at hBy
        go_wp2
        refine ⟨⟨k + 1, by omega, by go_num, ?_⟩, by simp [intOf]; omega⟩
        refine text_step hR hB ?_
        rw [hBy]
        clear hBy
        go_light
        omega
      · have hm' : (k : Int).tmod 8 = 5 := by omega
        rw [e] at hBy
        clear hm e
        simp only [Nat.reduceMul, Nat.reducePow] at hBy
        go_wp2
        refine ⟨⟨k + 1, by omega, by go_num, ?_⟩, by simp [intOf]; omega⟩
        refine text_step hR hB ?_
        rw [hBy]
        clear hBy
        go_light
        omega
      · have hm' : (k : Int).tmod 8 = 6 := by omega
        rw [e] at hBy
        clear hm e
        simp only [Nat.reduceMul, Nat.reducePow] at hBy
        go_wp2
        refine ⟨⟨k + 1, by omega, by go_num, ?_⟩, by simp [intOf]; omega⟩
        refine text_step hR hB ?_
        rw [hBy]
        clear hBy
        go_light
        omega
      · have hm' : (k : Int).tmod 8 = 7 := by omega
        rw [e] at hBy
        clear hm e
        simp only [Nat.reduceMul, Nat.reducePow] at hBy
        go_wp2
        refine ⟨⟨k + 1, by omega, by go_num, ?_⟩, by simp [intOf]; omega⟩
        refine text_step hR hB ?_
        rw [hBy]
        clear hBy
        go_light
        omega
    · obtain rfl : k = n := by omega
      have hcv := run_convert_bytes_back (P := Tryz.prog) wr 54 9 5 ⟨w1.heap.size, 0, none⟩ k (txtL ws p) Tryz.underlying54 Tryz.underlying5 Tryz.underlying9 (fun j hj => by
        have hj' : j < k := by rw [txtL_length, hN] at hj; exact hj
        rw [Addr.add_lit, Nat.zero_add, hR.cell hj', txtL_at]
        simp [hj'])
      rw [txtL_length, hN] at hcv
      go_wp2
      go_ret
      exact ⟨rfl, below_next B1 hB⟩
end Go.Proofs.YtmckcnmlhgpnhaaGreat

/- The model's l4Same. -/
namespace Go.Proofs.YtmckcnmlhgpnhaaGreat
set_option maxRecDepth 20000
open Go.RowKit
set_option linter.unusedSimpArgs false
set_option linter.unusedVariables false

/-- A text that can be read. -/
def TextIn (ws : List Int) (q : Nat) : Prop := wordAt ws (q + 1) ≤ 160 ∧ q + 1 + (txtN ws q + 7) / 8 < ws.length
/-- A value that can be looked at as a key. -/
def KeyIn (ws : List Int) (t m : Int) : Prop :=
  (isR t = true → 0 ≤ m ∧ m < ws.length ∧ 0 ≤ leadsAt ws m.toNat ∧ leadsAt ws m.toNat < ws.length) ∧ (t = 3 → TextIn ws (leadsAt ws m.toNat).toNat)
/-- Two values are the same. -/
def sameV (ws : List Int) (t m t2 m2 : Int) : Bool :=
  if t = t2 then (if isR t = true then (if t = 3 then ((txt ws (leadsAt ws m.toNat).toNat).toList == (txt ws (leadsAt ws m2.toNat).toNat).toList) else (leadsAt ws m.toNat == leadsAt ws m2.toNat)) else (m == m2)) else false

theorem three_cells {w W : World} {A B C : Array Value} {ta tb tc : TypeId} (hB : Below (((w.alloc (.cells A ta)).alloc (.cells B tb)).alloc (.cells C tc)).heap.size (((w.alloc (.cells A ta)).alloc (.cells B tb)).alloc (.cells C tc)) W) :
    (∀ i, W.cell? ⟨w.heap.size, i, none⟩ = A[i]?) ∧ (∀ i, W.cell? ⟨w.heap.size + 1, i, none⟩ = B[i]?) ∧ (∀ i, W.cell? ⟨w.heap.size + 1 + 1, i, none⟩ = C[i]?) := by
  refine ⟨fun i => ?_, fun i => ?_, fun i => ?_⟩
  · rw [hB.cell (p := ⟨w.heap.size, i, none⟩) (by simp; omega)]; simp [go_sem]
  · rw [hB.cell (p := ⟨w.heap.size + 1, i, none⟩) (by simp)]; simp [go_sem]
  · rw [hB.cell (p := ⟨w.heap.size + 1 + 1, i, none⟩) (by simp)]; simp [go_sem]
theorem below_third {w W : World} {o o2 o3 : Obj} (hB : Below (((w.alloc o).alloc o2).alloc o3).heap.size (((w.alloc o).alloc o2).alloc o3) W) : Below w.heap.size w W :=
  below_next ((((Below.refl w.heap.size w).alloc (Nat.le_refl _) o).alloc (by simp) o2).alloc (by simp; omega) o3) hB

theorem l4Same_tags (aw : Option Addr) (cw : Nat) (ws : List Int) (semi toh top : Int) (cyc : Bool) (scan old copied serial : Int) (ar : Option Addr) (cr : Nat) (rs : List (Int × Int)) (t m t2 m2 : Int) (w : World) (h : ¬ t = t2) :
    Calls Tryz.prog 162 #[.agg #[.slice aw ws.length cw, .int .i64 semi, .int .i64 toh, .int .i64 top, .bool cyc, .int .i64 scan, .int .i64 old, .int .i64 copied, .int .i64 serial, .slice ar rs.length cr], .agg #[.int .i64 t, .int .i64 m], .agg #[.int .i64 t2, .int .i64 m2]] w fun e w' => e = .returned (.bool false) ∧ Below w.heap.size w w' := by
  have e : (t != t2) = true := by simpa using h
  go_enter Tryz.func162, Tryz.ntmps162
  go_wp2
  go_ret
  exact ⟨rfl, below_third (Below.refl _ _)⟩
theorem l4Same_plain (aw : Option Addr) (cw : Nat) (ws : List Int) (semi toh top : Int) (cyc : Bool) (scan old copied serial : Int) (ar : Option Addr) (cr : Nat) (rs : List (Int × Int)) (t m m2 : Int) (w : World) (h : isR t = false) :
    Calls Tryz.prog 162 #[.agg #[.slice aw ws.length cw, .int .i64 semi, .int .i64 toh, .int .i64 top, .bool cyc, .int .i64 scan, .int .i64 old, .int .i64 copied, .int .i64 serial, .slice ar rs.length cr], .agg #[.int .i64 t, .int .i64 m], .agg #[.int .i64 t, .int .i64 m2]] w fun e w' => e = .returned (.bool (m == m2)) ∧ Below w.heap.size w w' := by
  go_enter Tryz.func162, Tryz.ntmps162
  go_wp2_with (go_at_call 42; refine (specIsRef_any _ _ _).mono ?_; rintro e w1 ⟨rfl, b1⟩; obtain ⟨c1, c2, c3⟩ := three_cells b1)
  go_ret
  exact ⟨rfl, below_third b1⟩
set_option maxHeartbeats 2000000 in
theorem l4Same_other (aw : Option Addr) (cw : Nat) (ws : List Int) (semi toh top : Int) (cyc : Bool) (scan old copied serial : Int) (ar : Option Addr) (cr : Nat) (rs : List (Int × Int)) (t m t2 m2 : Int) (P Q : Nat) (w : World) (he : (t != t2) = false) (h : isR t = true) (h3 : ¬ t = 3) (hs : Sl w (.slice aw ws.length cw) ws) (hn : ws.length ≤ 1048576) (hw : Words64 ws) (hP : m = P) (hQ : m2 = Q) (hP1 : P < ws.length) (hQ1 : Q < ws.length) :
    Calls Tryz.prog 162 #[.agg #[.slice aw ws.length cw, .int .i64 semi, .int .i64 toh, .int .i64 top, .bool cyc, .int .i64 scan, .int .i64 old, .int .i64 copied, .int .i64 serial, .slice ar rs.length cr], .agg #[.int .i64 t, .int .i64 m], .agg #[.int .i64 t2, .int .i64 m2]] w fun e w' => e = .returned (.bool (leadsAt ws P == leadsAt ws Q)) ∧ Below w.heap.size w w' := by
  have HP : Hid (m = (P : Int)) := hP
  have HQ : Hid (m2 = (Q : Int)) := hQ
  have e3 : (t == 3) = false := by simpa using h3
  clear hP hQ h3
  have KP : ∀ W, Below (((w.alloc (.cells #[.slice aw ws.length cw, .int .i64 semi, .int .i64 toh, .int .i64 top, .bool cyc, .int .i64 scan, .int .i64 old, .int .i64 copied, .int .i64 serial, .slice ar rs.length cr] 30)).alloc (.cells #[.int .i64 t, .int .i64 m] 48)).alloc (.cells #[.int .i64 t2, .int .i64 m2] 48)).heap.size (((w.alloc (.cells #[.slice aw ws.length cw, .int .i64 semi, .int .i64 toh, .int .i64 top, .bool cyc, .int .i64 scan, .int .i64 old, .int .i64 copied, .int .i64 serial, .slice ar rs.length cr] 30)).alloc (.cells #[.int .i64 t, .int .i64 m] 48)).alloc (.cells #[.int .i64 t2, .int .i64 m2] 48)) W → (Below (((w.alloc (.cells #[.slice aw ws.length cw, .int .i64 semi, .int .i64 toh, .int .i64 top, .bool cyc, .int .i64 scan, .int .i64 old, .int .i64 copied, .int .i64 serial, .slice ar rs.length cr] 30)).alloc (.cells #[.int .i64 t, .int .i64 m] 48)).alloc (.cells #[.int .i64 t2, .int .i64 m2] 48)).heap.size (((w.alloc (.cells #[.slice aw ws.length cw, .int .i64 semi, .int .i64 toh, .int .i64 top, .bool cyc, .int .i64 scan, .int .i64 old, .int .i64 copied, .int .i64 serial, .slice ar rs.length cr] 30)).alloc (.cells #[.int .i64 t, .int .i64 m] 48)).alloc (.cells #[.int .i64 t2, .int .i64 m2] 48)) W ∧ (∀ i, W.cell? ⟨w.heap.size, i, none⟩ = (#[.slice aw ws.length cw, .int .i64 semi, .int .i64 toh, .int .i64 top, .bool cyc, .int .i64 scan, .int .i64 old, .int .i64 copied, .int .i64 serial, .slice ar rs.length cr] : Array Value)[i]?) ∧ (∀ i, W.cell? ⟨w.heap.size + 1, i, none⟩ = (#[.int .i64 t, .int .i64 m] : Array Value)[i]?) ∧ (∀ i, W.cell? ⟨w.heap.size + 1 + 1, i, none⟩ = (#[.int .i64 t2, .int .i64 m2] : Array Value)[i]?)) := fun W hW => ⟨hW, three_cells hW⟩
  have HS : ∀ W, Below (((w.alloc (.cells #[.slice aw ws.length cw, .int .i64 semi, .int .i64 toh, .int .i64 top, .bool cyc, .int .i64 scan, .int .i64 old, .int .i64 copied, .int .i64 serial, .slice ar rs.length cr] 30)).alloc (.cells #[.int .i64 t, .int .i64 m] 48)).alloc (.cells #[.int .i64 t2, .int .i64 m2] 48)).heap.size (((w.alloc (.cells #[.slice aw ws.length cw, .int .i64 semi, .int .i64 toh, .int .i64 top, .bool cyc, .int .i64 scan, .int .i64 old, .int .i64 copied, .int .i64 serial, .slice ar rs.length cr] 30)).alloc (.cells #[.int .i64 t, .int .i64 m] 48)).alloc (.cells #[.int .i64 t2, .int .i64 m2] 48)) W → Sl W (.slice aw ws.length cw) ws := fun W hW => hs.below (below_third hW)
  go_enter Tryz.func162, Tryz.ntmps162
  go_wp2_with (go_at_call 42; refine (specIsRef_any _ _ _).mono ?_; rintro e w1 ⟨rfl, b1⟩; obtain ⟨c1, c2, c3⟩ := three_cells b1)
  go_cut [7, 8] from 22 to 29 (fun s7 s8 wc => s7 = .int .i64 (leadsAt ws P) ∧ s8 = .int .i64 (leadsAt ws Q) ∧ Below (((w.alloc (.cells #[.slice aw ws.length cw, .int .i64 semi, .int .i64 toh, .int .i64 top, .bool cyc, .int .i64 scan, .int .i64 old, .int .i64 copied, .int .i64 serial, .slice ar rs.length cr] 30)).alloc (.cells #[.int .i64 t, .int .i64 m] 48)).alloc (.cells #[.int .i64 t2, .int .i64 m2] 48)).heap.size (((w.alloc (.cells #[.slice aw ws.length cw, .int .i64 semi, .int .i64 toh, .int .i64 top, .bool cyc, .int .i64 scan, .int .i64 old, .int .i64 copied, .int .i64 serial, .slice ar rs.length cr] 30)).alloc (.cells #[.int .i64 t, .int .i64 m] 48)).alloc (.cells #[.int .i64 t2, .int .i64 m2] 48)) wc)
  case first =>
    have b1' := b1.drew
    clear c1 c2 c3 hs
    go_region_held3 (fun W => Below (((w.alloc (.cells #[.slice aw ws.length cw, .int .i64 semi, .int .i64 toh, .int .i64 top, .bool cyc, .int .i64 scan, .int .i64 old, .int .i64 copied, .int .i64 serial, .slice ar rs.length cr] 30)).alloc (.cells #[.int .i64 t, .int .i64 m] 48)).alloc (.cells #[.int .i64 t2, .int .i64 m2] 48)).heap.size (((w.alloc (.cells #[.slice aw ws.length cw, .int .i64 semi, .int .i64 toh, .int .i64 top, .bool cyc, .int .i64 scan, .int .i64 old, .int .i64 copied, .int .i64 serial, .slice ar rs.length cr] 30)).alloc (.cells #[.int .i64 t, .int .i64 m] 48)).alloc (.cells #[.int .i64 t2, .int .i64 m2] 48)) W ∧ (∀ i, W.cell? ⟨w.heap.size, i, none⟩ = (#[.slice aw ws.length cw, .int .i64 semi, .int .i64 toh, .int .i64 top, .bool cyc, .int .i64 scan, .int .i64 old, .int .i64 copied, .int .i64 serial, .slice ar rs.length cr] : Array Value)[i]?) ∧ (∀ i, W.cell? ⟨w.heap.size + 1, i, none⟩ = (#[.int .i64 t, .int .i64 m] : Array Value)[i]?) ∧ (∀ i, W.cell? ⟨w.heap.size + 1 + 1, i, none⟩ = (#[.int .i64 t2, .int .i64 m2] : Array Value)[i]?)) (first | exact KP _ (by assumption) | exact KP _ b1') (first | (go_at_call_of 46 m; refine (l2Where_at _ _ _ _ _ _ _ _ _ _ _ _ _ _ m P _ HP.out (HS _ (And.left (by assumption))) hn hw hP1).mono ?_; rintro e w' ⟨rfl, hb⟩; have hB3 := below_next (w := (((w.alloc (.cells #[.slice aw ws.length cw, .int .i64 semi, .int .i64 toh, .int .i64 top, .bool cyc, .int .i64 scan, .int .i64 old, .int .i64 copied, .int .i64 serial, .slice ar rs.length cr] 30)).alloc (.cells #[.int .i64 t, .int .i64 m] 48)).alloc (.cells #[.int .i64 t2, .int .i64 m2] 48))) (And.left (by assumption)) hb; clear hb) | (go_at_call_of 46 m2; refine (l2Where_at _ _ _ _ _ _ _ _ _ _ _ _ _ _ m2 Q _ HQ.out (HS _ (And.left (by assumption))) hn hw hQ1).mono ?_; rintro e w' ⟨rfl, hb⟩; have hB3 := below_next (w := (((w.alloc (.cells #[.slice aw ws.length cw, .int .i64 semi, .int .i64 toh, .int .i64 top, .bool cyc, .int .i64 scan, .int .i64 old, .int .i64 copied, .int .i64 serial, .slice ar rs.length cr] 30)).alloc (.cells #[.int .i64 t, .int .i64 m] 48)).alloc (.cells #[.int .i64 t2, .int .i64 m2] 48))) (And.left (by assumption)) hb; clear hb))
    all_goals (go_wp2_with fail; go_meet; exact ⟨rfl, rfl, And.left (by assumption)⟩)
  case rest =>
    obtain ⟨rfl, rfl, hBc⟩ := hcut
    obtain ⟨d1, d2, d3⟩ := three_cells hBc
    clear c1 c2 c3 KP HS
    go_wp2
    go_ret
    exact ⟨rfl, below_third hBc⟩
theorem arx_cells {b off : Nat} {w W : World} {ws : List Int} (hb : b < w.heap.size) (hc : ∀ i, i < ws.length → w.cell? ⟨b, off + i, none⟩ = some (.int .u64 (wordAt ws i))) (hB : Below w.heap.size w W) : b < W.heap.size ∧ ∀ i, i < ws.length → W.cell? ⟨b, off + i, none⟩ = some (.int .u64 (wordAt ws i)) :=
  ⟨Nat.lt_of_lt_of_le hb hB.size, fun i hi => by rw [hB.cell (p := ⟨b, off + i, none⟩) hb]; exact hc i hi⟩
set_option maxHeartbeats 2000000 in
theorem l4Same_text (b off cw : Nat) (ws : List Int) (semi toh top : Int) (cyc : Bool) (scan old copied serial : Int) (ar : Option Addr) (cr : Nat) (rs : List (Int × Int)) (t m t2 m2 : Int) (P Q P' Q' : Nat) (w : World) (he : (t != t2) = false) (h : isR t = true) (e3 : (t == 3) = true) (hs : Sl w (.slice (some ⟨b, off, none⟩) ws.length cw) ws) (hb : b < w.heap.size) (hc : ∀ i, i < ws.length → w.cell? ⟨b, off + i, none⟩ = some (.int .u64 (wordAt ws i))) (hn : ws.length ≤ 1048576) (hw : Words64 ws) (hP : m = P) (hQ : m2 = Q) (hP1 : P < ws.length) (hQ1 : Q < ws.length) (hP' : leadsAt ws P = P') (hQ' : leadsAt ws Q = Q') (tP : TextIn ws P') (tQ : TextIn ws Q') :
    Calls Tryz.prog 162 #[(.agg #[.slice (some ⟨b, off, none⟩) ws.length cw, .int .i64 semi, .int .i64 toh, .int .i64 top, .bool cyc, .int .i64 scan, .int .i64 old, .int .i64 copied, .int .i64 serial, .slice ar rs.length cr]), .agg #[.int .i64 t, .int .i64 m], .agg #[.int .i64 t2, .int .i64 m2]] w fun e w' => e = .returned (.bool ((txt ws P').toList == (txt ws Q').toList)) ∧ Below w.heap.size w w' := by
  have HP : Hid (m = (P : Int)) := hP
  have HQ : Hid (m2 = (Q : Int)) := hQ
  have HP' : Hid (leadsAt ws P = (P' : Int)) := hP'
  have HQ' : Hid (leadsAt ws Q = (Q' : Int)) := hQ'
  have wP := (word_in hw (P' + 1)).1
  have wQ := (word_in hw (Q' + 1)).1
  have nP : Hid (wordAt ws (P' + 1) = (txtN ws P' : Int)) := by show wordAt ws (P' + 1) = (txtN ws P' : Int); unfold txtN; omega
  have nQ : Hid (wordAt ws (Q' + 1) = (txtN ws Q' : Int)) := by show wordAt ws (Q' + 1) = (txtN ws Q' : Int); unfold txtN; omega
  have n1P : txtN ws P' ≤ 160 := by have := tP.1; unfold txtN; omega
  have n1Q : txtN ws Q' ≤ 160 := by have := tQ.1; unfold txtN; omega
  have n2P := tP.2
  have n2Q := tQ.2
  clear hP hQ hP' hQ' wP wQ tP tQ
  have KP : ∀ W, Below (((w.alloc (.cells #[.slice (some ⟨b, off, none⟩) ws.length cw, .int .i64 semi, .int .i64 toh, .int .i64 top, .bool cyc, .int .i64 scan, .int .i64 old, .int .i64 copied, .int .i64 serial, .slice ar rs.length cr] 30)).alloc (.cells #[.int .i64 t, .int .i64 m] 48)).alloc (.cells #[.int .i64 t2, .int .i64 m2] 48)).heap.size (((w.alloc (.cells #[.slice (some ⟨b, off, none⟩) ws.length cw, .int .i64 semi, .int .i64 toh, .int .i64 top, .bool cyc, .int .i64 scan, .int .i64 old, .int .i64 copied, .int .i64 serial, .slice ar rs.length cr] 30)).alloc (.cells #[.int .i64 t, .int .i64 m] 48)).alloc (.cells #[.int .i64 t2, .int .i64 m2] 48)) W → (Below (((w.alloc (.cells #[.slice (some ⟨b, off, none⟩) ws.length cw, .int .i64 semi, .int .i64 toh, .int .i64 top, .bool cyc, .int .i64 scan, .int .i64 old, .int .i64 copied, .int .i64 serial, .slice ar rs.length cr] 30)).alloc (.cells #[.int .i64 t, .int .i64 m] 48)).alloc (.cells #[.int .i64 t2, .int .i64 m2] 48)).heap.size (((w.alloc (.cells #[.slice (some ⟨b, off, none⟩) ws.length cw, .int .i64 semi, .int .i64 toh, .int .i64 top, .bool cyc, .int .i64 scan, .int .i64 old, .int .i64 copied, .int .i64 serial, .slice ar rs.length cr] 30)).alloc (.cells #[.int .i64 t, .int .i64 m] 48)).alloc (.cells #[.int .i64 t2, .int .i64 m2] 48)) W ∧ (∀ i, W.cell? ⟨w.heap.size, i, none⟩ = (#[.slice (some ⟨b, off, none⟩) ws.length cw, .int .i64 semi, .int .i64 toh, .int .i64 top, .bool cyc, .int .i64 scan, .int .i64 old, .int .i64 copied, .int .i64 serial, .slice ar rs.length cr] : Array Value)[i]?) ∧ (∀ i, W.cell? ⟨w.heap.size + 1, i, none⟩ = (#[.int .i64 t, .int .i64 m] : Array Value)[i]?) ∧ (∀ i, W.cell? ⟨w.heap.size + 1 + 1, i, none⟩ = (#[.int .i64 t2, .int .i64 m2] : Array Value)[i]?)) := fun W hW => ⟨hW, three_cells hW⟩
  have HS : ∀ W, Below (((w.alloc (.cells #[.slice (some ⟨b, off, none⟩) ws.length cw, .int .i64 semi, .int .i64 toh, .int .i64 top, .bool cyc, .int .i64 scan, .int .i64 old, .int .i64 copied, .int .i64 serial, .slice ar rs.length cr] 30)).alloc (.cells #[.int .i64 t, .int .i64 m] 48)).alloc (.cells #[.int .i64 t2, .int .i64 m2] 48)).heap.size (((w.alloc (.cells #[.slice (some ⟨b, off, none⟩) ws.length cw, .int .i64 semi, .int .i64 toh, .int .i64 top, .bool cyc, .int .i64 scan, .int .i64 old, .int .i64 copied, .int .i64 serial, .slice ar rs.length cr] 30)).alloc (.cells #[.int .i64 t, .int .i64 m] 48)).alloc (.cells #[.int .i64 t2, .int .i64 m2] 48)) W → Sl W (.slice (some ⟨b, off, none⟩) ws.length cw) ws := fun W hW => hs.below (below_third hW)
  have HC : ∀ W, Below (((w.alloc (.cells #[.slice (some ⟨b, off, none⟩) ws.length cw, .int .i64 semi, .int .i64 toh, .int .i64 top, .bool cyc, .int .i64 scan, .int .i64 old, .int .i64 copied, .int .i64 serial, .slice ar rs.length cr] 30)).alloc (.cells #[.int .i64 t, .int .i64 m] 48)).alloc (.cells #[.int .i64 t2, .int .i64 m2] 48)).heap.size (((w.alloc (.cells #[.slice (some ⟨b, off, none⟩) ws.length cw, .int .i64 semi, .int .i64 toh, .int .i64 top, .bool cyc, .int .i64 scan, .int .i64 old, .int .i64 copied, .int .i64 serial, .slice ar rs.length cr] 30)).alloc (.cells #[.int .i64 t, .int .i64 m] 48)).alloc (.cells #[.int .i64 t2, .int .i64 m2] 48)) W → b < W.heap.size ∧ ∀ i, i < ws.length → W.cell? ⟨b, off + i, none⟩ = some (.int .u64 (wordAt ws i)) := fun W hW => arx_cells hb hc (below_third hW)
  clear hc
  go_enter Tryz.func162, Tryz.ntmps162
  go_wp2_with (go_at_call 42; refine (specIsRef_any _ _ _).mono ?_; rintro e w1 ⟨rfl, b1⟩; obtain ⟨c1, c2, c3⟩ := three_cells b1)
  go_cut [7, 8] from 22 to 29 (fun s7 s8 wc => s7 = .int .i64 (leadsAt ws P) ∧ s8 = .int .i64 (leadsAt ws Q) ∧ Below (((w.alloc (.cells #[.slice (some ⟨b, off, none⟩) ws.length cw, .int .i64 semi, .int .i64 toh, .int .i64 top, .bool cyc, .int .i64 scan, .int .i64 old, .int .i64 copied, .int .i64 serial, .slice ar rs.length cr] 30)).alloc (.cells #[.int .i64 t, .int .i64 m] 48)).alloc (.cells #[.int .i64 t2, .int .i64 m2] 48)).heap.size (((w.alloc (.cells #[.slice (some ⟨b, off, none⟩) ws.length cw, .int .i64 semi, .int .i64 toh, .int .i64 top, .bool cyc, .int .i64 scan, .int .i64 old, .int .i64 copied, .int .i64 serial, .slice ar rs.length cr] 30)).alloc (.cells #[.int .i64 t, .int .i64 m] 48)).alloc (.cells #[.int .i64 t2, .int .i64 m2] 48)) wc)
  case first =>
    have b1' := b1.drew
    clear c1 c2 c3 hs HC
    go_region_held3 (fun W => Below (((w.alloc (.cells #[.slice (some ⟨b, off, none⟩) ws.length cw, .int .i64 semi, .int .i64 toh, .int .i64 top, .bool cyc, .int .i64 scan, .int .i64 old, .int .i64 copied, .int .i64 serial, .slice ar rs.length cr] 30)).alloc (.cells #[.int .i64 t, .int .i64 m] 48)).alloc (.cells #[.int .i64 t2, .int .i64 m2] 48)).heap.size (((w.alloc (.cells #[.slice (some ⟨b, off, none⟩) ws.length cw, .int .i64 semi, .int .i64 toh, .int .i64 top, .bool cyc, .int .i64 scan, .int .i64 old, .int .i64 copied, .int .i64 serial, .slice ar rs.length cr] 30)).alloc (.cells #[.int .i64 t, .int .i64 m] 48)).alloc (.cells #[.int .i64 t2, .int .i64 m2] 48)) W ∧ (∀ i, W.cell? ⟨w.heap.size, i, none⟩ = (#[.slice (some ⟨b, off, none⟩) ws.length cw, .int .i64 semi, .int .i64 toh, .int .i64 top, .bool cyc, .int .i64 scan, .int .i64 old, .int .i64 copied, .int .i64 serial, .slice ar rs.length cr] : Array Value)[i]?) ∧ (∀ i, W.cell? ⟨w.heap.size + 1, i, none⟩ = (#[.int .i64 t, .int .i64 m] : Array Value)[i]?) ∧ (∀ i, W.cell? ⟨w.heap.size + 1 + 1, i, none⟩ = (#[.int .i64 t2, .int .i64 m2] : Array Value)[i]?)) (first | exact KP _ (by assumption) | exact KP _ b1') (first | (go_at_call_of 46 m; refine (l2Where_at _ _ _ _ _ _ _ _ _ _ _ _ _ _ m P _ HP.out (HS _ (And.left (by assumption))) hn hw hP1).mono ?_; rintro e w' ⟨rfl, hb⟩; have hB3 := below_next (w := (((w.alloc (.cells #[.slice (some ⟨b, off, none⟩) ws.length cw, .int .i64 semi, .int .i64 toh, .int .i64 top, .bool cyc, .int .i64 scan, .int .i64 old, .int .i64 copied, .int .i64 serial, .slice ar rs.length cr] 30)).alloc (.cells #[.int .i64 t, .int .i64 m] 48)).alloc (.cells #[.int .i64 t2, .int .i64 m2] 48))) (And.left (by assumption)) hb; clear hb) | (go_at_call_of 46 m2; refine (l2Where_at _ _ _ _ _ _ _ _ _ _ _ _ _ _ m2 Q _ HQ.out (HS _ (And.left (by assumption))) hn hw hQ1).mono ?_; rintro e w' ⟨rfl, hb⟩; have hB3 := below_next (w := (((w.alloc (.cells #[.slice (some ⟨b, off, none⟩) ws.length cw, .int .i64 semi, .int .i64 toh, .int .i64 top, .bool cyc, .int .i64 scan, .int .i64 old, .int .i64 copied, .int .i64 serial, .slice ar rs.length cr] 30)).alloc (.cells #[.int .i64 t, .int .i64 m] 48)).alloc (.cells #[.int .i64 t2, .int .i64 m2] 48))) (And.left (by assumption)) hb; clear hb))
    all_goals (go_wp2_with fail; go_meet; exact ⟨rfl, rfl, And.left (by assumption)⟩)
  case rest =>
    obtain ⟨rfl, rfl, hBc⟩ := hcut
    obtain ⟨d1, d2, d3⟩ := three_cells hBc
    clear c1 c2 c3
    go_wp2
    have b2' := hBc.drew
    clear d1 d2 d3
    go_region_held3 (fun W => Below (((w.alloc (.cells #[.slice (some ⟨b, off, none⟩) ws.length cw, .int .i64 semi, .int .i64 toh, .int .i64 top, .bool cyc, .int .i64 scan, .int .i64 old, .int .i64 copied, .int .i64 serial, .slice ar rs.length cr] 30)).alloc (.cells #[.int .i64 t, .int .i64 m] 48)).alloc (.cells #[.int .i64 t2, .int .i64 m2] 48)).heap.size (((w.alloc (.cells #[.slice (some ⟨b, off, none⟩) ws.length cw, .int .i64 semi, .int .i64 toh, .int .i64 top, .bool cyc, .int .i64 scan, .int .i64 old, .int .i64 copied, .int .i64 serial, .slice ar rs.length cr] 30)).alloc (.cells #[.int .i64 t, .int .i64 m] 48)).alloc (.cells #[.int .i64 t2, .int .i64 m2] 48)) W ∧ (∀ i, W.cell? ⟨w.heap.size, i, none⟩ = (#[.slice (some ⟨b, off, none⟩) ws.length cw, .int .i64 semi, .int .i64 toh, .int .i64 top, .bool cyc, .int .i64 scan, .int .i64 old, .int .i64 copied, .int .i64 serial, .slice ar rs.length cr] : Array Value)[i]?) ∧ (∀ i, W.cell? ⟨w.heap.size + 1, i, none⟩ = (#[.int .i64 t, .int .i64 m] : Array Value)[i]?) ∧ (∀ i, W.cell? ⟨w.heap.size + 1 + 1, i, none⟩ = (#[.int .i64 t2, .int .i64 m2] : Array Value)[i]?)) (first | exact KP _ (by assumption) | exact KP _ b2') (first | (go_at_call_of 194 (leadsAt ws P); refine (l4Text_at _ _ _ _ _ _ _ _ _ _ _ _ _ _ _ _ P' (txtN ws P') _ HP'.out (HS _ (And.left (by assumption))) (HC _ (And.left (by assumption))).1 (HC _ (And.left (by assumption))).2 hn hw nP.out n1P n2P).mono ?_; rintro e w' ⟨rfl, hb⟩; have hB3 := below_next (w := (((w.alloc (.cells #[.slice (some ⟨b, off, none⟩) ws.length cw, .int .i64 semi, .int .i64 toh, .int .i64 top, .bool cyc, .int .i64 scan, .int .i64 old, .int .i64 copied, .int .i64 serial, .slice ar rs.length cr] 30)).alloc (.cells #[.int .i64 t, .int .i64 m] 48)).alloc (.cells #[.int .i64 t2, .int .i64 m2] 48))) (And.left (by assumption)) hb; clear hb) | (go_at_call_of 194 (leadsAt ws Q); refine (l4Text_at _ _ _ _ _ _ _ _ _ _ _ _ _ _ _ _ Q' (txtN ws Q') _ HQ'.out (HS _ (And.left (by assumption))) (HC _ (And.left (by assumption))).1 (HC _ (And.left (by assumption))).2 hn hw nQ.out n1Q n2Q).mono ?_; rintro e w' ⟨rfl, hb⟩; have hB3 := below_next (w := (((w.alloc (.cells #[.slice (some ⟨b, off, none⟩) ws.length cw, .int .i64 semi, .int .i64 toh, .int .i64 top, .bool cyc, .int .i64 scan, .int .i64 old, .int .i64 copied, .int .i64 serial, .slice ar rs.length cr] 30)).alloc (.cells #[.int .i64 t, .int .i64 m] 48)).alloc (.cells #[.int .i64 t2, .int .i64 m2] 48))) (And.left (by assumption)) hb; clear hb))
    all_goals
      go_wp2
      go_ret
      exact ⟨rfl, below_third (by assumption)⟩
theorem l4Same_at (b off cw : Nat) (ws : List Int) (semi toh top : Int) (cyc : Bool) (scan old copied serial : Int) (ar : Option Addr) (cr : Nat) (rs : List (Int × Int)) (t m t2 m2 : Int) (w : World) (hs : Sl w (.slice (some ⟨b, off, none⟩) ws.length cw) ws) (hb : b < w.heap.size) (hc : ∀ i, i < ws.length → w.cell? ⟨b, off + i, none⟩ = some (.int .u64 (wordAt ws i))) (hn : ws.length ≤ 1048576) (hw : Words64 ws) (k1 : KeyIn ws t m) (k2 : KeyIn ws t2 m2) :
    Calls Tryz.prog 162 #[(.agg #[.slice (some ⟨b, off, none⟩) ws.length cw, .int .i64 semi, .int .i64 toh, .int .i64 top, .bool cyc, .int .i64 scan, .int .i64 old, .int .i64 copied, .int .i64 serial, .slice ar rs.length cr]), .agg #[.int .i64 t, .int .i64 m], .agg #[.int .i64 t2, .int .i64 m2]] w fun e w' => e = .returned (.bool (sameV ws t m t2 m2)) ∧ Below w.heap.size w w' := by
  by_cases h12 : t = t2
  · subst h12
    by_cases hr : isR t = true
    · obtain ⟨a1, a2, a3, a4⟩ := k1.1 hr
      obtain ⟨d1, d2, d3, d4⟩ := k2.1 hr
      obtain ⟨P, rfl⟩ := Int.eq_ofNat_of_zero_le a1
      obtain ⟨Q, rfl⟩ := Int.eq_ofNat_of_zero_le d1
      have tP := k1.2
      have tQ := k2.2
      simp only [Int.toNat_natCast] at a3 a4 d3 d4 tP tQ
      by_cases h3 : t = 3
      · obtain ⟨P', hP'⟩ := Int.eq_ofNat_of_zero_le a3
        obtain ⟨Q', hQ'⟩ := Int.eq_ofNat_of_zero_le d3
        have e : sameV ws t P t Q = ((txt ws P').toList == (txt ws Q').toList) := by simp [sameV, hr, h3, hP', hQ']; simp [isR]
        rw [e]
        have tP := tP h3
        have tQ := tQ h3
        rw [hP', Int.toNat_natCast] at tP
        rw [hQ', Int.toNat_natCast] at tQ
        exact l4Same_text b off cw ws semi toh top cyc scan old copied serial ar cr rs t P t Q P Q P' Q' w (by simp) hr (by simpa using h3) hs hb hc hn hw rfl rfl (by omega) (by omega) hP' hQ' tP tQ
      · have e : sameV ws t P t Q = (leadsAt ws P == leadsAt ws Q) := by simp [sameV, hr, h3]
        rw [e]
        exact l4Same_other _ _ _ _ _ _ _ _ _ _ _ _ _ _ t P t Q P Q w (by simp) hr h3 hs hn hw rfl rfl (by omega) (by omega)
    · rw [Bool.not_eq_true] at hr
      have e : sameV ws t m t m2 = (m == m2) := by simp [sameV, hr]
      rw [e]
      exact l4Same_plain _ _ _ _ _ _ _ _ _ _ _ _ _ _ t m m2 w hr
  · have e : sameV ws t m t2 m2 = false := by simp [sameV, h12]
    rw [e]
    exact l4Same_tags _ _ _ _ _ _ _ _ _ _ _ _ _ _ t m t2 m2 w h12
end Go.Proofs.YtmckcnmlhgpnhaaGreat

/- The model's l6Hash. -/
namespace Go.Proofs.YtmckcnmlhgpnhaaGreat
set_option maxRecDepth 20000
open Go.RowKit
set_option linter.unusedSimpArgs false
set_option linter.unusedVariables false

/-- The hash of the first k bytes of a text. -/
def hashK (ws : List Int) (q : Nat) : Nat → Int
  | 0 => 5381
  | k + 1 => (33 * hashK ws q k + byteAt ws q k) % 1000003
theorem hashK_in (ws : List Int) (q k : Nat) : 0 ≤ hashK ws q k ∧ hashK ws q k < 1000003 := by
  cases k with
  | zero => simp [hashK]
  | succ k => simp only [hashK]; omega
def hashV (ws : List Int) (t m : Int) : Int :=
  if t = 1 then m else if t = 2 then m % 18446744073709551616 % 1000003 else if t = 7 then m + 7 else if t = 3 then hashK ws (leadsAt ws m.toNat).toNat (txtN ws (leadsAt ws m.toNat).toNat) else rdN (wordAt ws (leadsAt ws m.toNat).toNat)

theorem l6Hash_bool (aw : Option Addr) (cw : Nat) (ws : List Int) (semi toh top : Int) (cyc : Bool) (scan old copied serial : Int) (ar : Option Addr) (cr : Nat) (rs : List (Int × Int)) (t m : Int) (w : World) (h : (t == 1) = true) :
    Calls Tryz.prog 161 #[.agg #[.slice aw ws.length cw, .int .i64 semi, .int .i64 toh, .int .i64 top, .bool cyc, .int .i64 scan, .int .i64 old, .int .i64 copied, .int .i64 serial, .slice ar rs.length cr], .agg #[.int .i64 t, .int .i64 m]] w fun e w' => e = .returned (.int .i64 m) ∧ Below w.heap.size w w' := by
  go_enter Tryz.func161, Tryz.ntmps161
  go_wp2
  go_ret
  exact ⟨rfl, below_second (Below.refl _ _)⟩
theorem hash_int (m : Int) : wrap64 ((IntKind.u64.wrap m).tmod 1000003) = m % 18446744073709551616 % 1000003 := by
  rw [IntKind.wrap_u64]
  rw [Int.tmod_eq_emod_of_nonneg (by omega)]
  exact word_wrap_small (by omega) (by omega)
theorem l6Hash_int (aw : Option Addr) (cw : Nat) (ws : List Int) (semi toh top : Int) (cyc : Bool) (scan old copied serial : Int) (ar : Option Addr) (cr : Nat) (rs : List (Int × Int)) (t m : Int) (w : World) (h1 : (t == 1) = false) (h : (t == 2) = true) :
    Calls Tryz.prog 161 #[.agg #[.slice aw ws.length cw, .int .i64 semi, .int .i64 toh, .int .i64 top, .bool cyc, .int .i64 scan, .int .i64 old, .int .i64 copied, .int .i64 serial, .slice ar rs.length cr], .agg #[.int .i64 t, .int .i64 m]] w fun e w' => e = .returned (.int .i64 (m % 18446744073709551616 % 1000003)) ∧ Below w.heap.size w w' := by
  go_enter Tryz.func161, Tryz.ntmps161
  go_wp2
  go_ret
  exact ⟨ret_int (hash_int m), below_second (Below.refl _ _)⟩
theorem l6Hash_lib (aw : Option Addr) (cw : Nat) (ws : List Int) (semi toh top : Int) (cyc : Bool) (scan old copied serial : Int) (ar : Option Addr) (cr : Nat) (rs : List (Int × Int)) (t m : Int) (w : World) (h1 : (t == 1) = false) (h2 : (t == 2) = false) (h : (t == 7) = true) (m0 : 1 ≤ m) (m1 : m ≤ 20) :
    Calls Tryz.prog 161 #[.agg #[.slice aw ws.length cw, .int .i64 semi, .int .i64 toh, .int .i64 top, .bool cyc, .int .i64 scan, .int .i64 old, .int .i64 copied, .int .i64 serial, .slice ar rs.length cr], .agg #[.int .i64 t, .int .i64 m]] w fun e w' => e = .returned (.int .i64 (m + 7)) ∧ Below w.heap.size w w' := by
  go_enter Tryz.func161, Tryz.ntmps161
  go_wp2
  go_ret
  exact ⟨rfl, below_second (Below.refl _ _)⟩
theorem two_boxes {w W : World} {A B : Array Value} {ta tb : TypeId} (hB : Below ((w.alloc (.cells A ta)).alloc (.cells B tb)).heap.size ((w.alloc (.cells A ta)).alloc (.cells B tb)) W) :
    (∀ i, W.cell? ⟨w.heap.size, i, none⟩ = A[i]?) ∧ (∀ i, W.cell? ⟨w.heap.size + 1, i, none⟩ = B[i]?) := by
  refine ⟨fun i => ?_, fun i => ?_⟩
  · rw [hB.cell (p := ⟨w.heap.size, i, none⟩) (by simp; omega)]; simp [go_sem]
  · rw [hB.cell (p := ⟨w.heap.size + 1, i, none⟩) (by simp)]; simp [go_sem]
set_option maxHeartbeats 2000000 in
theorem l6Hash_born (aw : Option Addr) (cw : Nat) (ws : List Int) (semi toh top : Int) (cyc : Bool) (scan old copied serial : Int) (ar : Option Addr) (cr : Nat) (rs : List (Int × Int)) (t m : Int) (P P' : Nat) (w : World) (h1 : (t == 1) = false) (h2 : (t == 2) = false) (h7 : (t == 7) = false) (h3 : (t == 3) = false) (hs : Sl w (.slice aw ws.length cw) ws) (hn : ws.length ≤ 1048576) (hw : Words64 ws) (hP : m = P) (hP1 : P < ws.length) (hP' : leadsAt ws P = P') (hP2 : P' < ws.length) :
    Calls Tryz.prog 161 #[.agg #[.slice aw ws.length cw, .int .i64 semi, .int .i64 toh, .int .i64 top, .bool cyc, .int .i64 scan, .int .i64 old, .int .i64 copied, .int .i64 serial, .slice ar rs.length cr], .agg #[.int .i64 t, .int .i64 m]] w fun e w' => e = .returned (.int .i64 (rdN (wordAt ws P'))) ∧ Below w.heap.size w w' := by
  have HP : Hid (m = (P : Int)) := hP
  have HP' : Hid (leadsAt ws P = (P' : Int)) := hP'
  have hfs := field_serial
  clear hP hP'
  have KP : ∀ W, Below ((w.alloc (.cells #[.slice aw ws.length cw, .int .i64 semi, .int .i64 toh, .int .i64 top, .bool cyc, .int .i64 scan, .int .i64 old, .int .i64 copied, .int .i64 serial, .slice ar rs.length cr] 30)).alloc (.cells #[.int .i64 t, .int .i64 m] 48)).heap.size ((w.alloc (.cells #[.slice aw ws.length cw, .int .i64 semi, .int .i64 toh, .int .i64 top, .bool cyc, .int .i64 scan, .int .i64 old, .int .i64 copied, .int .i64 serial, .slice ar rs.length cr] 30)).alloc (.cells #[.int .i64 t, .int .i64 m] 48)) W → (Below ((w.alloc (.cells #[.slice aw ws.length cw, .int .i64 semi, .int .i64 toh, .int .i64 top, .bool cyc, .int .i64 scan, .int .i64 old, .int .i64 copied, .int .i64 serial, .slice ar rs.length cr] 30)).alloc (.cells #[.int .i64 t, .int .i64 m] 48)).heap.size ((w.alloc (.cells #[.slice aw ws.length cw, .int .i64 semi, .int .i64 toh, .int .i64 top, .bool cyc, .int .i64 scan, .int .i64 old, .int .i64 copied, .int .i64 serial, .slice ar rs.length cr] 30)).alloc (.cells #[.int .i64 t, .int .i64 m] 48)) W ∧ (∀ i, W.cell? ⟨w.heap.size, i, none⟩ = (#[.slice aw ws.length cw, .int .i64 semi, .int .i64 toh, .int .i64 top, .bool cyc, .int .i64 scan, .int .i64 old, .int .i64 copied, .int .i64 serial, .slice ar rs.length cr] : Array Value)[i]?) ∧ (∀ i, W.cell? ⟨w.heap.size + 1, i, none⟩ = (#[.int .i64 t, .int .i64 m] : Array Value)[i]?)) := fun W hW => ⟨hW, two_boxes hW⟩
  have HS : ∀ W, Below ((w.alloc (.cells #[.slice aw ws.length cw, .int .i64 semi, .int .i64 toh, .int .i64 top, .bool cyc, .int .i64 scan, .int .i64 old, .int .i64 copied, .int .i64 serial, .slice ar rs.length cr] 30)).alloc (.cells #[.int .i64 t, .int .i64 m] 48)).heap.size ((w.alloc (.cells #[.slice aw ws.length cw, .int .i64 semi, .int .i64 toh, .int .i64 top, .bool cyc, .int .i64 scan, .int .i64 old, .int .i64 copied, .int .i64 serial, .slice ar rs.length cr] 30)).alloc (.cells #[.int .i64 t, .int .i64 m] 48)) W → Sl W (.slice aw ws.length cw) ws := fun W hW => hs.below (below_second hW)
  go_enter Tryz.func161, Tryz.ntmps161
  go_wp2
  have b1' := (Below.refl ((w.alloc (.cells #[.slice aw ws.length cw, .int .i64 semi, .int .i64 toh, .int .i64 top, .bool cyc, .int .i64 scan, .int .i64 old, .int .i64 copied, .int .i64 serial, .slice ar rs.length cr] 30)).alloc (.cells #[.int .i64 t, .int .i64 m] 48)).heap.size ((w.alloc (.cells #[.slice aw ws.length cw, .int .i64 semi, .int .i64 toh, .int .i64 top, .bool cyc, .int .i64 scan, .int .i64 old, .int .i64 copied, .int .i64 serial, .slice ar rs.length cr] 30)).alloc (.cells #[.int .i64 t, .int .i64 m] 48))).drew
  clear hs
  go_region_held3 (fun W => Below ((w.alloc (.cells #[.slice aw ws.length cw, .int .i64 semi, .int .i64 toh, .int .i64 top, .bool cyc, .int .i64 scan, .int .i64 old, .int .i64 copied, .int .i64 serial, .slice ar rs.length cr] 30)).alloc (.cells #[.int .i64 t, .int .i64 m] 48)).heap.size ((w.alloc (.cells #[.slice aw ws.length cw, .int .i64 semi, .int .i64 toh, .int .i64 top, .bool cyc, .int .i64 scan, .int .i64 old, .int .i64 copied, .int .i64 serial, .slice ar rs.length cr] 30)).alloc (.cells #[.int .i64 t, .int .i64 m] 48)) W ∧ (∀ i, W.cell? ⟨w.heap.size, i, none⟩ = (#[.slice aw ws.length cw, .int .i64 semi, .int .i64 toh, .int .i64 top, .bool cyc, .int .i64 scan, .int .i64 old, .int .i64 copied, .int .i64 serial, .slice ar rs.length cr] : Array Value)[i]?) ∧ (∀ i, W.cell? ⟨w.heap.size + 1, i, none⟩ = (#[.int .i64 t, .int .i64 m] : Array Value)[i]?)) (first | exact KP _ (by assumption) | exact KP _ b1') (first | (go_at_call 46; refine (l2Where_at _ _ _ _ _ _ _ _ _ _ _ _ _ _ m P _ HP.out (HS _ (And.left (by assumption))) hn hw hP1).mono ?_; rintro e w' ⟨rfl, hb⟩; have hB3 := below_next (w := ((w.alloc (.cells #[.slice aw ws.length cw, .int .i64 semi, .int .i64 toh, .int .i64 top, .bool cyc, .int .i64 scan, .int .i64 old, .int .i64 copied, .int .i64 serial, .slice ar rs.length cr] 30)).alloc (.cells #[.int .i64 t, .int .i64 m] 48))) (And.left (by assumption)) hb; clear hb) | (go_at_call 43; refine (l2Look_at _ _ _ _ _ _ _ _ _ _ _ _ _ _ _ P' _ HP'.out (HS _ (And.left (by assumption))) hn hw hP2).mono ?_; rintro e w' ⟨rfl, hb⟩; have hB3 := below_next (w := ((w.alloc (.cells #[.slice aw ws.length cw, .int .i64 semi, .int .i64 toh, .int .i64 top, .bool cyc, .int .i64 scan, .int .i64 old, .int .i64 copied, .int .i64 serial, .slice ar rs.length cr] 30)).alloc (.cells #[.int .i64 t, .int .i64 m] 48))) (And.left (by assumption)) hb; clear hb))
  all_goals
    go_wp2
    go_ret
    exact ⟨rfl, below_second (by assumption)⟩
theorem txt_size (ws : List Int) (q : Nat) : (txt ws q).size = txtN ws q := by simp [txt, ByteArray.size, txtL]
theorem txt_get (ws : List Int) (q k : Nat) (h : k < (txt ws q).size) : (txt ws q)[k].toNat = byteAt ws q k := by
  have hk : k < (txtL ws q).length := by rw [txtL_length, ← txt_size]; exact h
  have := txtL_at ws q k hk
  have e : (txt ws q)[k]'h = (txtL ws q)[k]'hk := by simp [txt, ByteArray.getElem_eq_getElem_data]
  exact (congrArg UInt8.toNat e).trans (by omega)
theorem hash_step {h : Int} {x y : Nat} (h0 : 0 ≤ h) (h1 : h < 1000003) (hy : y < 256) (e : x = y) : (wrap64 (33 * h + wrap64 (x : Int))).tmod 1000003 = (33 * h + y) % 1000003 := by
  subst e
  rw [word_wrap_small (x := (x : Int)) (by omega) (by omega), word_wrap_small (by omega) (by omega), Int.tmod_eq_emod_of_nonneg (by omega)]
set_option maxHeartbeats 2000000 in
theorem l6Hash_text (b off cw : Nat) (ws : List Int) (semi toh top : Int) (cyc : Bool) (scan old copied serial : Int) (ar : Option Addr) (cr : Nat) (rs : List (Int × Int)) (t m : Int) (P P' : Nat) (w : World) (h1 : (t == 1) = false) (h2 : (t == 2) = false) (h7 : (t == 7) = false) (h3 : (t == 3) = true) (hs : Sl w (.slice (some ⟨b, off, none⟩) ws.length cw) ws) (hb : b < w.heap.size) (hc : ∀ i, i < ws.length → w.cell? ⟨b, off + i, none⟩ = some (.int .u64 (wordAt ws i))) (hn : ws.length ≤ 1048576) (hw : Words64 ws) (hP : m = P) (hP1 : P < ws.length) (hP' : leadsAt ws P = P') (tP : TextIn ws P') :
    Calls Tryz.prog 161 #[(.agg #[.slice (some ⟨b, off, none⟩) ws.length cw, .int .i64 semi, .int .i64 toh, .int .i64 top, .bool cyc, .int .i64 scan, .int .i64 old, .int .i64 copied, .int .i64 serial, .slice ar rs.length cr]), .agg #[.int .i64 t, .int .i64 m]] w fun e w' => e = .returned (.int .i64 (hashK ws P' (txtN ws P'))) ∧ Below w.heap.size w w' := by
  have HP : Hid (m = (P : Int)) := hP
  have HP' : Hid (leadsAt ws P = (P' : Int)) := hP'
  have wP := (word_in hw (P' + 1)).1
  have nP : Hid (wordAt ws (P' + 1) = (txtN ws P' : Int)) := by show wordAt ws (P' + 1) = (txtN ws P' : Int); unfold txtN; omega
  have n1P : txtN ws P' ≤ 160 := by have := tP.1; unfold txtN; omega
  have n2P := tP.2
  clear hP hP' wP tP
  have KP : ∀ W, Below ((w.alloc (.cells #[.slice (some ⟨b, off, none⟩) ws.length cw, .int .i64 semi, .int .i64 toh, .int .i64 top, .bool cyc, .int .i64 scan, .int .i64 old, .int .i64 copied, .int .i64 serial, .slice ar rs.length cr] 30)).alloc (.cells #[.int .i64 t, .int .i64 m] 48)).heap.size ((w.alloc (.cells #[.slice (some ⟨b, off, none⟩) ws.length cw, .int .i64 semi, .int .i64 toh, .int .i64 top, .bool cyc, .int .i64 scan, .int .i64 old, .int .i64 copied, .int .i64 serial, .slice ar rs.length cr] 30)).alloc (.cells #[.int .i64 t, .int .i64 m] 48)) W → (Below ((w.alloc (.cells #[.slice (some ⟨b, off, none⟩) ws.length cw, .int .i64 semi, .int .i64 toh, .int .i64 top, .bool cyc, .int .i64 scan, .int .i64 old, .int .i64 copied, .int .i64 serial, .slice ar rs.length cr] 30)).alloc (.cells #[.int .i64 t, .int .i64 m] 48)).heap.size ((w.alloc (.cells #[.slice (some ⟨b, off, none⟩) ws.length cw, .int .i64 semi, .int .i64 toh, .int .i64 top, .bool cyc, .int .i64 scan, .int .i64 old, .int .i64 copied, .int .i64 serial, .slice ar rs.length cr] 30)).alloc (.cells #[.int .i64 t, .int .i64 m] 48)) W ∧ (∀ i, W.cell? ⟨w.heap.size, i, none⟩ = (#[.slice (some ⟨b, off, none⟩) ws.length cw, .int .i64 semi, .int .i64 toh, .int .i64 top, .bool cyc, .int .i64 scan, .int .i64 old, .int .i64 copied, .int .i64 serial, .slice ar rs.length cr] : Array Value)[i]?) ∧ (∀ i, W.cell? ⟨w.heap.size + 1, i, none⟩ = (#[.int .i64 t, .int .i64 m] : Array Value)[i]?)) := fun W hW => ⟨hW, two_boxes hW⟩
  have HS : ∀ W, Below ((w.alloc (.cells #[.slice (some ⟨b, off, none⟩) ws.length cw, .int .i64 semi, .int .i64 toh, .int .i64 top, .bool cyc, .int .i64 scan, .int .i64 old, .int .i64 copied, .int .i64 serial, .slice ar rs.length cr] 30)).alloc (.cells #[.int .i64 t, .int .i64 m] 48)).heap.size ((w.alloc (.cells #[.slice (some ⟨b, off, none⟩) ws.length cw, .int .i64 semi, .int .i64 toh, .int .i64 top, .bool cyc, .int .i64 scan, .int .i64 old, .int .i64 copied, .int .i64 serial, .slice ar rs.length cr] 30)).alloc (.cells #[.int .i64 t, .int .i64 m] 48)) W → Sl W (.slice (some ⟨b, off, none⟩) ws.length cw) ws := fun W hW => hs.below (below_second hW)
  have HC : ∀ W, Below ((w.alloc (.cells #[.slice (some ⟨b, off, none⟩) ws.length cw, .int .i64 semi, .int .i64 toh, .int .i64 top, .bool cyc, .int .i64 scan, .int .i64 old, .int .i64 copied, .int .i64 serial, .slice ar rs.length cr] 30)).alloc (.cells #[.int .i64 t, .int .i64 m] 48)).heap.size ((w.alloc (.cells #[.slice (some ⟨b, off, none⟩) ws.length cw, .int .i64 semi, .int .i64 toh, .int .i64 top, .bool cyc, .int .i64 scan, .int .i64 old, .int .i64 copied, .int .i64 serial, .slice ar rs.length cr] 30)).alloc (.cells #[.int .i64 t, .int .i64 m] 48)) W → b < W.heap.size ∧ ∀ i, i < ws.length → W.cell? ⟨b, off + i, none⟩ = some (.int .u64 (wordAt ws i)) := fun W hW => arx_cells hb hc (below_second hW)
  go_enter Tryz.func161, Tryz.ntmps161
  go_wp2
  have b1' := (Below.refl ((w.alloc (.cells #[.slice (some ⟨b, off, none⟩) ws.length cw, .int .i64 semi, .int .i64 toh, .int .i64 top, .bool cyc, .int .i64 scan, .int .i64 old, .int .i64 copied, .int .i64 serial, .slice ar rs.length cr] 30)).alloc (.cells #[.int .i64 t, .int .i64 m] 48)).heap.size ((w.alloc (.cells #[.slice (some ⟨b, off, none⟩) ws.length cw, .int .i64 semi, .int .i64 toh, .int .i64 top, .bool cyc, .int .i64 scan, .int .i64 old, .int .i64 copied, .int .i64 serial, .slice ar rs.length cr] 30)).alloc (.cells #[.int .i64 t, .int .i64 m] 48))).drew
  clear hs hc
  go_cut [5] from 28 to 33 (fun s5 wc => s5 = .string (txt ws P') ∧ Below ((w.alloc (.cells #[.slice (some ⟨b, off, none⟩) ws.length cw, .int .i64 semi, .int .i64 toh, .int .i64 top, .bool cyc, .int .i64 scan, .int .i64 old, .int .i64 copied, .int .i64 serial, .slice ar rs.length cr] 30)).alloc (.cells #[.int .i64 t, .int .i64 m] 48)).heap.size ((w.alloc (.cells #[.slice (some ⟨b, off, none⟩) ws.length cw, .int .i64 semi, .int .i64 toh, .int .i64 top, .bool cyc, .int .i64 scan, .int .i64 old, .int .i64 copied, .int .i64 serial, .slice ar rs.length cr] 30)).alloc (.cells #[.int .i64 t, .int .i64 m] 48)) wc)
  case first =>
    go_region_held3 (fun W => Below ((w.alloc (.cells #[.slice (some ⟨b, off, none⟩) ws.length cw, .int .i64 semi, .int .i64 toh, .int .i64 top, .bool cyc, .int .i64 scan, .int .i64 old, .int .i64 copied, .int .i64 serial, .slice ar rs.length cr] 30)).alloc (.cells #[.int .i64 t, .int .i64 m] 48)).heap.size ((w.alloc (.cells #[.slice (some ⟨b, off, none⟩) ws.length cw, .int .i64 semi, .int .i64 toh, .int .i64 top, .bool cyc, .int .i64 scan, .int .i64 old, .int .i64 copied, .int .i64 serial, .slice ar rs.length cr] 30)).alloc (.cells #[.int .i64 t, .int .i64 m] 48)) W ∧ (∀ i, W.cell? ⟨w.heap.size, i, none⟩ = (#[.slice (some ⟨b, off, none⟩) ws.length cw, .int .i64 semi, .int .i64 toh, .int .i64 top, .bool cyc, .int .i64 scan, .int .i64 old, .int .i64 copied, .int .i64 serial, .slice ar rs.length cr] : Array Value)[i]?) ∧ (∀ i, W.cell? ⟨w.heap.size + 1, i, none⟩ = (#[.int .i64 t, .int .i64 m] : Array Value)[i]?)) (first | exact KP _ (by assumption) | exact KP _ b1') (first | (go_at_call 46; refine (l2Where_at _ _ _ _ _ _ _ _ _ _ _ _ _ _ m P _ HP.out (HS _ (And.left (by assumption))) hn hw hP1).mono ?_; rintro e w' ⟨rfl, hb⟩; have hB3 := below_next (w := ((w.alloc (.cells #[.slice (some ⟨b, off, none⟩) ws.length cw, .int .i64 semi, .int .i64 toh, .int .i64 top, .bool cyc, .int .i64 scan, .int .i64 old, .int .i64 copied, .int .i64 serial, .slice ar rs.length cr] 30)).alloc (.cells #[.int .i64 t, .int .i64 m] 48))) (And.left (by assumption)) hb; clear hb) | (go_at_call 194; refine (l4Text_at _ _ _ _ _ _ _ _ _ _ _ _ _ _ _ _ P' (txtN ws P') _ HP'.out (HS _ (And.left (by assumption))) (HC _ (And.left (by assumption))).1 (HC _ (And.left (by assumption))).2 hn hw nP.out n1P n2P).mono ?_; rintro e w' ⟨rfl, hb⟩; have hB3 := below_next (w := ((w.alloc (.cells #[.slice (some ⟨b, off, none⟩) ws.length cw, .int .i64 semi, .int .i64 toh, .int .i64 top, .bool cyc, .int .i64 scan, .int .i64 old, .int .i64 copied, .int .i64 serial, .slice ar rs.length cr] 30)).alloc (.cells #[.int .i64 t, .int .i64 m] 48))) (And.left (by assumption)) hb; clear hb))
    all_goals (go_wp2_with fail; go_meet; exact ⟨rfl, And.left (by assumption)⟩)
  case rest =>
    obtain ⟨rfl, hBc⟩ := hcut
    have hsz := txt_size ws P'
    clear KP HS HC b1' HP HP' nP
    go_wp2
    go_loopw [6, 7] (fun u6 u7 wr => ∃ k : Nat, k ≤ txtN ws P' ∧ u7 = .int .i64 k ∧ u6 = .int .i64 (hashK ws P' k) ∧ wr = wc) (fun _ u7 _ => txtN ws P' - (intOf u7).toNat)
    case atStart => exact ⟨0, Nat.zero_le _, rfl, rfl, rfl⟩
    case round =>
      obtain ⟨k, hk, rfl, rfl, rfl⟩ := hrel
      by_cases hlt : k < txtN ws P'
      · have hlt' : (k : Int) < (txtN ws P' : Int) := by omega
        have hh := hashK_in ws P' k
        obtain ⟨hh0, hh1⟩ := hh
        have hby := byteAt_lt ws P' k
        go_wp2
        refine ⟨⟨k + 1, by omega, by go_num, ?_, trivial⟩, by simp [intOf]; omega⟩
        rw [hash_step hh0 hh1 hby (txt_get ws P' k (by omega))]
        rfl
      · obtain rfl : k = txtN ws P' := by omega
        go_wp2
        go_ret
        exact ⟨rfl, below_second hBc⟩
theorem l6Hash_at (b off cw : Nat) (ws : List Int) (semi toh top : Int) (cyc : Bool) (scan old copied serial : Int) (ar : Option Addr) (cr : Nat) (rs : List (Int × Int)) (t m : Int) (w : World) (hs : Sl w (.slice (some ⟨b, off, none⟩) ws.length cw) ws) (hb : b < w.heap.size) (hc : ∀ i, i < ws.length → w.cell? ⟨b, off + i, none⟩ = some (.int .u64 (wordAt ws i))) (hn : ws.length ≤ 1048576) (hw : Words64 ws) (hv : vOk t m = true) (h0 : t ≠ 0) (k1 : KeyIn ws t m) :
    Calls Tryz.prog 161 #[(.agg #[.slice (some ⟨b, off, none⟩) ws.length cw, .int .i64 semi, .int .i64 toh, .int .i64 top, .bool cyc, .int .i64 scan, .int .i64 old, .int .i64 copied, .int .i64 serial, .slice ar rs.length cr]), .agg #[.int .i64 t, .int .i64 m]] w fun e w' => e = .returned (.int .i64 (hashV ws t m)) ∧ Below w.heap.size w w' := by
  simp only [vOk, decide_eq_true_eq] at hv
  by_cases h1 : t = 1
  · have e : hashV ws t m = m := by simp [hashV, h1]
    rw [e]
    exact l6Hash_bool _ _ _ _ _ _ _ _ _ _ _ _ _ _ t m w (by simpa using h1)
  · by_cases h2 : t = 2
    · have e : hashV ws t m = m % 18446744073709551616 % 1000003 := by simp [hashV, h2]
      rw [e]
      exact l6Hash_int _ _ _ _ _ _ _ _ _ _ _ _ _ _ t m w (by simpa using h1) (by simpa using h2)
    · by_cases h7 : t = 7
      · have e : hashV ws t m = m + 7 := by simp [hashV, h7]
        rw [e]
        exact l6Hash_lib _ _ _ _ _ _ _ _ _ _ _ _ _ _ t m w (by simpa using h1) (by simpa using h2) (by simpa using h7) (by omega) (by omega)
      · have hr : isR t = true := by simp only [isR, decide_eq_true_eq]; omega
        obtain ⟨a1, a2, a3, a4⟩ := k1.1 hr
        have tP := k1.2
        obtain ⟨P, rfl⟩ := Int.eq_ofNat_of_zero_le a1
        simp only [Int.toNat_natCast] at a3 a4 tP
        obtain ⟨P', hP'⟩ := Int.eq_ofNat_of_zero_le a3
        by_cases h3 : t = 3
        · have e : hashV ws t P = hashK ws P' (txtN ws P') := by simp [hashV, h3, hP']
          rw [e]
          have tP := tP h3
          rw [hP', Int.toNat_natCast] at tP
          exact l6Hash_text b off cw ws semi toh top cyc scan old copied serial ar cr rs t P P P' w (by simpa using h1) (by simpa using h2) (by simpa using h7) (by simpa using h3) hs hb hc hn hw rfl (by omega) hP' tP
        · have e : hashV ws t P = rdN (wordAt ws P') := by simp [hashV, h1, h2, h7, h3, hP']
          rw [e]
          exact l6Hash_born _ _ _ _ _ _ _ _ _ _ _ _ _ _ t P P P' w (by simpa using h1) (by simpa using h2) (by simpa using h7) (by simpa using h3) hs hn hw rfl (by omega) hP' (by omega)
theorem hashV_in {ws : List Int} {t m : Int} (hv : vOk t m = true) (h0 : t ≠ 0) : 0 ≤ hashV ws t m ∧ hashV ws t m ≤ 1000000000 := by
  simp only [vOk, decide_eq_true_eq] at hv
  unfold hashV
  split
  · omega
  · split
    · omega
    · split
      · omega
      · split
        · have := hashK_in ws (leadsAt ws m.toNat).toNat (txtN ws (leadsAt ws m.toNat).toNat); omega
        · unfold rdN
          split
          · rename_i h
            unfold rdOk at h
            rw [hOk_iff] at h
            unfold HOk at h
            omega
          · omega
end Go.Proofs.YtmckcnmlhgpnhaaGreat

/- The model's l6Find. -/
namespace Go.Proofs.YtmckcnmlhgpnhaaGreat
set_option maxRecDepth 20000
open Go.RowKit
set_option linter.unusedSimpArgs false
set_option linter.unusedVariables false

/-- The key of the entry i of the block whose head stands at B. -/
def kT (ws : List Int) (B i : Nat) : Int := rvT ws (B + 1 + 4 * i)
def kN (ws : List Int) (B i : Nat) : Int := rvN ws (B + 1 + 4 * i)
/-- The search of k entries, from the entry i on. -/
def findF (ws : List Int) (B n : Nat) (t m : Int) : Nat → Nat → Int × Bool
  | 0, _ => (-1, false)
  | k + 1, i => if kT ws B i = 0 then ((i : Int), false) else if sameV ws (kT ws B i) (kN ws B i) t m = true then ((i : Int), true) else findF ws B n t m k ((i + 1) % n)
def findV (ws : List Int) (B n : Nat) (t m : Int) : Int × Bool := findF ws B n t m n ((hashV ws t m).toNat % n)
/-- The keys of a block can be looked at. -/
def KeysIn (ws : List Int) (B n : Nat) : Prop := B + 4 * n < ws.length ∧ ∀ i, i < n → KeyIn ws (kT ws B i) (kN ws B i)

theorem emod_toNat {h : Int} (h0 : 0 ≤ h) (n : Nat) : h % (n : Int) = ((h.toNat % n : Nat) : Int) := by
  rw [Int.natCast_emod, Int.toNat_of_nonneg h0]
theorem l6Find_none (aw : Option Addr) (cw : Nat) (ws : List Int) (semi toh top : Int) (cyc : Bool) (scan old copied serial : Int) (ar : Option Addr) (cr : Nat) (rs : List (Int × Int)) (x n t m : Int) (w : World) (h : (t == 0) = true) :
    Calls Tryz.prog 130 #[.agg #[.slice aw ws.length cw, .int .i64 semi, .int .i64 toh, .int .i64 top, .bool cyc, .int .i64 scan, .int .i64 old, .int .i64 copied, .int .i64 serial, .slice ar rs.length cr], .int .i64 x, .int .i64 n, .agg #[.int .i64 t, .int .i64 m]] w fun e w' => e = .returned (.tuple #[.int .i64 (-1), .bool false]) ∧ Below w.heap.size w w' := by
  by_cases hn : n = 0
  · have e : (n == 0) = true := by simpa using hn
    clear hn
    go_enter Tryz.func130, Tryz.ntmps130
    go_wp2
    go_ret2
    exact ⟨rfl, below_second (Below.refl _ _)⟩
  · have e : (n == 0) = false := by simpa using hn
    clear hn
    go_enter Tryz.func130, Tryz.ntmps130
    go_wp2
    go_ret2
    exact ⟨rfl, below_second (Below.refl _ _)⟩
set_option maxHeartbeats 2000000 in
theorem l6Find_at (b off cw : Nat) (ws : List Int) (semi toh top : Int) (cyc : Bool) (scan old copied serial : Int) (ar : Option Addr) (cr : Nat) (rs : List (Int × Int)) (x t m : Int) (B n : Nat) (w : World) (hs : Sl w (.slice (some ⟨b, off, none⟩) ws.length cw) ws) (hb : b < w.heap.size) (hc : ∀ i, i < ws.length → w.cell? ⟨b, off + i, none⟩ = some (.int .u64 (wordAt ws i))) (hn : ws.length ≤ 1048576) (hw : Words64 ws) (hx : x = B) (hn0 : 0 < n) (hn1 : n ≤ 64) (hK : KeysIn ws B n) (h0 : (t == 0) = false) (hv : vOk t m = true) (k1 : KeyIn ws t m) :
    Calls Tryz.prog 130 #[(.agg #[.slice (some ⟨b, off, none⟩) ws.length cw, .int .i64 semi, .int .i64 toh, .int .i64 top, .bool cyc, .int .i64 scan, .int .i64 old, .int .i64 copied, .int .i64 serial, .slice ar rs.length cr]), .int .i64 x, .int .i64 n, .agg #[.int .i64 t, .int .i64 m]] w fun e w' => e = .returned (.tuple #[.int .i64 (findV ws B n t m).1, .bool (findV ws B n t m).2]) ∧ Below w.heap.size w w' := by
  have ht0 : t ≠ 0 := by simpa using h0
  obtain ⟨hh0, hh1⟩ := hashV_in (ws := ws) hv ht0
  have HX : Hid (x = (B : Int)) := hx
  have nz : ((n : Int) == 0) = false := by simp; omega
  have nz' : ¬ ((n : Int) = 0) := by omega
  have n1' : (n : Int) ≤ 64 := by omega
  have HV : Hid (vOk t m = true) := hv
  have HK1 : Hid (KeyIn ws t m) := k1
  have HKS : Hid (KeysIn ws B n) := hK
  have HT0 : Hid (t ≠ 0) := ht0
  obtain ⟨i0, hi0⟩ : ∃ i0 : Nat, i0 = (hashV ws t m).toNat % n := ⟨_, rfl⟩
  have hmod : (hashV ws t m).tmod (n : Int) = (i0 : Int) := by rw [Int.tmod_eq_emod_of_nonneg hh0, hi0]; exact emod_toNat hh0 n
  have hi0n : i0 < n := by rw [hi0]; exact Nat.mod_lt _ hn0
  have HF : Hid (findV ws B n t m = findF ws B n t m n i0) := by show findV ws B n t m = findF ws B n t m n i0; rw [hi0]; rfl
  obtain ⟨H, hH⟩ : ∃ H, H = hashV ws t m := ⟨_, rfl⟩
  have HH : Hid (hashV ws t m = H) := hH.symm
  rw [← hH] at hmod hh0 hh1
  clear hx hv k1 hK ht0 hi0 hH
  go_enter Tryz.func130, Tryz.ntmps130
  go_wp2_with fail
  refine (l6Hash_at _ _ _ _ _ _ _ _ _ _ _ _ _ _ _ t m _ (sl_alloc (sl_alloc hs _) _) (lt_alloc (lt_alloc hb)) (fun i hi => cell_alloc_lt (lt_alloc hb) (cell_alloc_lt hb (hc i hi))) hn hw HV.out HT0.out HK1.out).mono ?_
  rw [HH.out]
  rintro e w1 ⟨rfl, b1⟩
  obtain ⟨c1, c2⟩ := two_boxes b1
  have z1 := size_second b1
  have B1 := below_second b1
  have S1 := hs.below B1
  obtain ⟨lb1, C1⟩ := arx_cells hb hc B1
  clear b1 hs hc
  go_wp2
  clear hmod
  go_loopw [10, 11] (fun u10 u11 wr => ∃ k i : Nat, k ≤ n ∧ i < n ∧ u11 = .int .i64 k ∧ u10 = .int .i64 i ∧ findF ws B n t m n i0 = findF ws B n t m (n - k) i ∧ Below w1.heap.size w1 wr) (fun _ u11 _ => n - (intOf u11).toNat)
  case atStart => exact ⟨0, i0, Nat.zero_le _, hi0n, rfl, rfl, rfl, Below.refl _ _⟩
  case round =>
    obtain ⟨k, i, hk, hi, rfl, rfl, hF, hB⟩ := hrel
    have HF2 : Hid (findF ws B n t m n i0 = findF ws B n t m (n - k) i) := hF
    clear hF
    have lwr := hB.size
    by_cases hlt : k < n
    · have hlt' : (k : Int) < (n : Int) := by omega
      have hi' : (i : Int) < (n : Int) := by omega
      obtain ⟨j, hj⟩ : ∃ j : Nat, j = (i + 1) % n := ⟨_, rfl⟩
      have hjn : j < n := by rw [hj]; exact Nat.mod_lt _ hn0
      have hjm : ((i : Int) + 1).tmod (n : Int) = (j : Int) := by rw [Int.tmod_eq_emod_of_nonneg (by omega), hj]; exact emod_toNat (h := (i : Int) + 1) (by omega) n
      have hst : Hid (findF ws B n t m (n - k) i = if kT ws B i = 0 then ((i : Int), false) else if sameV ws (kT ws B i) (kN ws B i) t m = true then ((i : Int), true) else findF ws B n t m (n - (k + 1)) j) := by
        show findF ws B n t m (n - k) i = _
        rw [hj, show n - k = (n - (k + 1)) + 1 by omega]; rfl
      clear hj
      have KA := has_below c1 hB (by omega)
      have KB := has_below c2 hB (by omega)
      have SR := S1.below hB
      obtain ⟨lbr, CR⟩ := arx_cells lb1 C1 hB
      have hky : B + 1 + 4 * i + 1 < ws.length := by have := HKS.out.1; omega
      have HKi : Hid (KeyIn ws (kT ws B i) (kN ws B i)) := HKS.out.2 i hi
      go_upto_region 8 with (go_at_call 129; refine (l6Key_at _ _ _ _ _ _ _ _ _ _ _ _ _ _ _ _ B i _ HX.out rfl SR hn hw hky).mono ?_; rintro e w2 ⟨rfl, b2⟩)
      have e1 : rvT ws (B + 1 + 4 * i) = kT ws B i := rfl
      have e2 : rvN ws (B + 1 + 4 * i) = kN ws B i := rfl
      rw [e1, e2]
      clear e1 e2
      generalize kT ws B i = tk at *
      generalize kN ws B i = mk at *
      have l0 : w.heap.size < wr.heap.size := by omega
      have l1 : w.heap.size + 1 < wr.heap.size := by omega
      have KA2 := has_below KA b2 l0
      have KB2 := has_below KB b2 l1
      have l0' : w.heap.size < w2.heap.size := Nat.lt_of_lt_of_le l0 b2.size
      have l1' : w.heap.size + 1 < w2.heap.size := Nat.lt_of_lt_of_le l1 b2.size
      have hB2 := below_next hB b2
      have hB3 : Below w1.heap.size w1 (w2.alloc (.cells #[.int .i64 tk, .int .i64 mk] 48)) := hB2.alloc hB2.size _
      have B3 := below_next B1 hB3
      have SR2 := S1.below hB3
      obtain ⟨lb3, C3⟩ := arx_cells lb1 C1 hB3
      clear KA KB c1 c2 SR CR lbr hb lb1
      by_cases hz : tk = 0
      · have e0 : (tk == 0) = true := by simpa using hz
        have hst := hst.out
        rw [if_pos hz] at hst
        have hend := HF.out.trans (HF2.out.trans hst)
        have HE : Hid (findV ws B n t m = ((i : Int), false)) := hend
        clear hst hend hz S1 C1 C3
        go_wp2
        go_ret2
        rw [HE.out]
        exact ⟨rfl, B3⟩
      · have e0 : (tk == 0) = false := by simpa using hz
        have hst := hst.out
        rw [if_neg hz] at hst
        clear hz
        by_cases hsm : sameV ws tk mk t m = true
        · rw [if_pos hsm] at hst
          have HE : Hid (findV ws B n t m = ((i : Int), true)) := HF.out.trans (HF2.out.trans hst)
          clear hst
          go_wp2_with (go_at_call 162; refine (l4Same_at _ _ _ _ _ _ _ _ _ _ _ _ _ _ _ tk mk t m _ SR2 lb3 C3 hn hw HKi.out HK1.out).mono ?_; rw [hsm]; rintro e w4 ⟨rfl, b4⟩)
          go_ret2
          rw [HE.out]
          exact ⟨rfl, below_next B3 b4⟩
        · rw [if_neg hsm] at hst
          rw [Bool.not_eq_true] at hsm
          have HE : Hid (findF ws B n t m n i0 = findF ws B n t m (n - (k + 1)) j) := HF2.out.trans hst
          clear hst
          go_wp2_with (go_at_call 162; refine (l4Same_at _ _ _ _ _ _ _ _ _ _ _ _ _ _ _ tk mk t m _ SR2 lb3 C3 hn hw HKi.out HK1.out).mono ?_; rw [hsm]; rintro e w4 ⟨rfl, b4⟩)
          first
            | (refine ⟨⟨k + 1, j, hlt, hjn, by go_num, rfl, HE.out, below_next hB3 b4⟩, by simp [intOf]; omega⟩)
            | (go_roundw
               case rel => exact ⟨k + 1, j, hlt, hjn, by go_num, rfl, HE.out, below_next hB3 b4⟩
               case measure => simp [intOf]; omega)
    · obtain rfl : k = n := by omega
      have HE : Hid (findV ws B k t m = (-1, false)) := HF.out.trans (HF2.out.trans (by rw [Nat.sub_self]; rfl))
      go_wp2
      go_ret2
      rw [HE.out]
      exact ⟨rfl, below_next B1 hB⟩
end Go.Proofs.YtmckcnmlhgpnhaaGreat
