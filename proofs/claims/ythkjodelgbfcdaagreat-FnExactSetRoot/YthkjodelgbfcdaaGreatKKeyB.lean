/- The program's texts: textAt, textHash, hash. -/
import Derived.Test.YthkjodelgbfcdaaGreatProg
import Derived.Test.YthkjodelgbfcdaaGreatKFindA
import Derived.Test.YthkjodelgbfcdaaGreatKImpC
namespace Go.Proofs.YthkjodelgbfcdaaGreat
set_option maxRecDepth 20000
open Go.RowKit
set_option linter.unusedSimpArgs false
set_option linter.unusedVariables false

theorem and7_fin : ∀ n : Fin 161, bits .and .i64 (n.val : Int) 7 = (n.val : Int) % 8 := by decide +kernel
theorem and7 (k : Nat) (h : k ≤ 160) : bits .and .i64 (k : Int) 7 = (k : Int) % 8 := and7_fin ⟨k, by omega⟩
set_option maxHeartbeats 1000000 in
theorem textAt_at (b off : Nat) (cw : Nat) (ws : List Int) (semi toh top : Int) (cyc : Bool) (scan old copied serial : Int) (ar : Option Addr) (cr : Nat) (rs : List (Int × Int)) (x : Int) (p n : Nat) (w : World) (hx : x = p) (hb : b < w.heap.size) (hc : ∀ i, i < ws.length → w.cell? ⟨b, off + i, none⟩ = some (.int .u64 (wordAt ws i))) (hn : ws.length ≤ 1048576) (hw : Words64 ws) (hz : wordAt ws (p + 1) = n) (hn1 : n ≤ 160) (h : p + 1 + (n + 7) / 8 < ws.length) :
    Calls Tryz.prog 124 #[(.agg #[.slice (some ⟨b, off, none⟩) ws.length cw, .int .i64 semi, .int .i64 toh, .int .i64 top, .bool cyc, .int .i64 scan, .int .i64 old, .int .i64 copied, .int .i64 serial, .slice ar rs.length cr]), .int .i64 x] w fun e w' => e = .returned (.string (txt ws p)) ∧ Below w.heap.size w w' := by
  have x0 : 0 ≤ x := by omega
  have x1 : x ≤ 1048576 := by omega
  have hN : txtN ws p = n := by unfold txtN; omega
  have HX : Hid (x = (p : Int)) := hx
  have j0 : 0 ≤ x + 1 := by omega
  have j1 : x + 1 < (ws.length : Int) := by omega
  have j2 : (x + 1).toNat = p + 1 := by omega
  have hc1 := hc (p + 1) (by omega)
  rw [hz] at hc1
  have hc1' := fun o => cell_alloc_lt (o := o) hb hc1
  clear hx hz hc1
  have hn' : (ws.length : Int) ≤ 1048576 := by omega
  have hn1' : (n : Int) ≤ 160 := by omega
  have hmk := fun (w : World) => run_make_row' (P := Tryz.prog) 124 5 (.int .u8 0) 1 Tryz.underlying124 infoU8 rfl .u64 .u64 n (by omega) (by omega) w
  go_enter Tryz.func124, Tryz.ntmps124
  obtain ⟨w1, hw1⟩ : ∃ w1, w1 = w.alloc (.cells #[.slice (some ⟨b, off, none⟩) ws.length cw, .int .i64 semi, .int .i64 toh, .int .i64 top, .bool cyc, .int .i64 scan, .int .i64 old, .int .i64 copied, .int .i64 serial, .slice ar rs.length cr] 30) := ⟨_, rfl⟩
  have B1 : Below w.heap.size w w1 := by rw [hw1]; exact (Below.refl _ _).alloc (Nat.le_refl _) _
  have k0 : w1.cell? ⟨w.heap.size, 0, none⟩ = some (.slice (some ⟨b, off, none⟩) ws.length cw) := by rw [hw1]; simp [go_sem]
  have z1 : w.heap.size < w1.heap.size := by rw [hw1]; simp
  have hcw : w1.cell? ⟨b, off + (p + 1), none⟩ = some (.int .u64 (n : Int)) := by rw [hw1]; exact hc1' _
  go_upto_region 1 with fail
  rw [← hw1]
  clear hw1 hc1'
  go_wp2
  go_loopw [16] (fun u16 wr => ∃ k : Nat, k ≤ n ∧ u16 = .int .i64 k ∧ wr.rowIs w1.heap.size 5 n (fun j => if j < k then .int .u8 (byteAt ws p j) else .int .u8 0) ∧ Below w1.heap.size w1 wr) (fun u16 _ => n - (intOf u16).toNat)
  case atStart => exact ⟨0, Nat.zero_le _, rfl, (World.rowIs_made w1 (.int .u8 0) n 5).congr (fun i _ => by simp), (Below.refl _ _).alloc (Nat.le_refl _) _⟩
  case round =>
    obtain ⟨k, hk, rfl, hR, hB⟩ := hrel
    have lwr := hB.size
    have k0r : wr.cell? ⟨w.heap.size, 0, none⟩ = some (.slice (some ⟨b, off, none⟩) ws.length cw) := by rw [hB.cell (p := ⟨w.heap.size, 0, none⟩) z1]; exact k0
    by_cases hlt : k < n
    · have hlt' : (k : Int) < (n : Int) := by omega
      have q : wr.cell? ⟨b, off + (p + 2 + k / 8), none⟩ = some (.int .u64 (wordAt ws (p + 2 + k / 8))) := by
        rw [hB.cell (p := ⟨b, off + (p + 2 + k / 8), none⟩) (by show b < w1.heap.size; omega), B1.cell (p := ⟨b, off + (p + 2 + k / 8), none⟩) hb]
        exact hc _ (by omega)
      have hw1 := word_in hw (p + 2 + k / 8)
      have hd : (k : Int) / 8 = ((k / 8 : Nat) : Int) := by omega
      have hm := and7 k (by omega)
      have hBy : byteAt ws p k = (wordAt ws (p + 2 + k / 8)).toNat / 2 ^ (8 * (k % 8)) % 256 := rfl
      have h8 : k % 8 = 0 ∨ k % 8 = 1 ∨ k % 8 = 2 ∨ k % 8 = 3 ∨ k % 8 = 4 ∨ k % 8 = 5 ∨ k % 8 = 6 ∨ k % 8 = 7 := by omega
      have hdp : p + 2 + k / 8 < ws.length := by omega
      generalize wordAt ws (p + 2 + k / 8) = Y at *
      generalize k / 8 = d at *
      obtain ⟨y0, y1⟩ := hw1
      have i0 : 0 ≤ x + 2 + (d : Int) := by omega
      have i1 : x + 2 + (d : Int) < (ws.length : Int) := by have := HX.out; omega
      have i2 : (x + 2 + (d : Int)).toNat = p + 2 + d := by have := HX.out; omega
      have i3 : (d : Int) ≤ 1048576 := by have := HX.out; omega
      have g1 := hR.cell (i := k) hlt
      rw [if_neg (Nat.lt_irrefl k)] at g1
      have g2 := hR.frozen k
      clear hc hmk hcw
      rcases h8 with e | e | e | e | e | e | e | e
      · have hm' : bits .and .i64 (k : Int) 7 = 0 := by rw [hm]; omega
        rw [e] at hBy
        clear hm e
        simp only [Nat.reduceMul, Nat.reducePow] at hBy
        go_wp2
        refine ⟨⟨k + 1, by omega, by go_num, ?_⟩, by simp [intOf]; omega⟩
        refine text_step hR hB ?_
        rw [hBy]
        clear hBy
        go_light
        omega
      · have hm' : bits .and .i64 (k : Int) 7 = 1 := by rw [hm]; omega
        rw [e] at hBy
        clear hm e
        simp only [Nat.reduceMul, Nat.reducePow] at hBy
        go_wp2
        refine ⟨⟨k + 1, by omega, by go_num, ?_⟩, by simp [intOf]; omega⟩
        refine text_step hR hB ?_
        rw [hBy]
        clear hBy
        go_light
        omega
      · have hm' : bits .and .i64 (k : Int) 7 = 2 := by rw [hm]; omega
        rw [e] at hBy
        clear hm e
        simp only [Nat.reduceMul, Nat.reducePow] at hBy
        go_wp2
        refine ⟨⟨k + 1, by omega, by go_num, ?_⟩, by simp [intOf]; omega⟩
        refine text_step hR hB ?_
        rw [hBy]
        clear hBy
        go_light
        omega
      · have hm' : bits .and .i64 (k : Int) 7 = 3 := by rw [hm]; omega
        rw [e] at hBy
        clear hm e
        simp only [Nat.reduceMul, Nat.reducePow] at hBy
        go_wp2
        refine ⟨⟨k + 1, by omega, by go_num, ?_⟩, by simp [intOf]; omega⟩
        refine text_step hR hB ?_
        rw [hBy]
        clear hBy
        go_light
        omega
      · have hm' : bits .and .i64 (k : Int) 7 = 4 := by rw [hm]; omega
        rw [e] at hBy
        clear hm e
        simp only [Nat.reduceMul, Nat.reducePow] at hBy
        go_wp2
        refine ⟨⟨k + 1, by omega, by go_num, ?_⟩, by simp [intOf]; omega⟩
        refine text_step hR hB ?_
        rw [hBy]
        clear hBy
        go_light
        omega
      · have hm' : bits .and .i64 (k : Int) 7 = 5 := by rw [hm]; omega
        rw [e] at hBy
        clear hm e
        simp only [Nat.reduceMul, Nat.reducePow] at hBy
        go_wp2
        refine ⟨⟨k + 1, by omega, by go_num, ?_⟩, by simp [intOf]; omega⟩
        refine text_step hR hB ?_
        rw [hBy]
        clear hBy
        go_light
        omega
      · have hm' : bits .and .i64 (k : Int) 7 = 6 := by rw [hm]; omega
        rw [e] at hBy
        clear hm e
        simp only [Nat.reduceMul, Nat.reducePow] at hBy
        go_wp2
        refine ⟨⟨k + 1, by omega, by go_num, ?_⟩, by simp [intOf]; omega⟩
        refine text_step hR hB ?_
        rw [hBy]
        clear hBy
        go_light
        omega
      · have hm' : bits .and .i64 (k : Int) 7 = 7 := by rw [hm]; omega
        rw [e] at hBy
        clear hm e
        simp only [Nat.reduceMul, Nat.reducePow] at hBy
        go_wp2
        refine ⟨⟨k + 1, by omega, by go_num, ?_⟩, by simp [intOf]; omega⟩
        refine text_step hR hB ?_
        rw [hBy]
        clear hBy
        go_light
        omega
    · obtain rfl : k = n := by omega
      have hcv := run_convert_bytes_back (P := Tryz.prog) wr 124 9 5 ⟨w1.heap.size, 0, none⟩ k (txtL ws p) Tryz.underlying124 Tryz.underlying5 Tryz.underlying9 (fun j hj => by
        have hj' : j < k := by rw [txtL_length, hN] at hj; exact hj
        rw [Addr.add_lit, Nat.zero_add, hR.cell hj', txtL_at]
        simp [hj'])
      rw [txtL_length, hN] at hcv
      go_wp2
      go_ret
      exact ⟨rfl, below_next B1 hB⟩
end Go.Proofs.YthkjodelgbfcdaaGreat

/- The program's hashes and keys. -/
namespace Go.Proofs.YthkjodelgbfcdaaGreat
set_option maxRecDepth 20000
open Go.RowKit
set_option linter.unusedSimpArgs false
set_option linter.unusedVariables false

theorem textHash_at (ws : List Int) (q : Nat) (w : World) (h1 : txtN ws q ≤ 160) :
    Calls Tryz.prog 127 #[.string (txt ws q)] w fun e w' => e = .returned (.int .i64 (hashK ws q (txtN ws q))) ∧ w' = w := by
  have hsz := txt_size ws q
  have h1' : (txtN ws q : Int) ≤ 160 := by omega
  go_enter Tryz.func127, Tryz.ntmps127
  go_wp2
  go_loopw [3, 7] (fun u3 u7 wr => ∃ k : Nat, k ≤ txtN ws q ∧ u7 = .int .i64 k ∧ u3 = .int .i64 (hashK ws q k) ∧ wr = w) (fun _ u7 _ => txtN ws q - (intOf u7).toNat)
  case atStart => exact ⟨0, Nat.zero_le _, rfl, rfl, rfl⟩
  case round =>
    obtain ⟨k, hk, rfl, rfl, rfl⟩ := hrel
    by_cases hlt : k < txtN ws q
    · have hlt' : (k : Int) < (txtN ws q : Int) := by omega
      obtain ⟨hh0, hh1⟩ := hashK_in ws q k
      have hby := byteAt_lt ws q k
      go_wp2
      refine ⟨⟨k + 1, by omega, by go_num, ?_, trivial⟩, by simp [intOf]; omega⟩
      rw [hash_step hh0 hh1 hby (txt_get ws q k (by omega))]
      rfl
    · obtain rfl : k = txtN ws q := by omega
      go_wp2
      go_ret
      exact ⟨rfl, rfl⟩
theorem hash_num (t n : Int) (s : ByteArray) (w : World) (h : (t == 2) = true) :
    Calls Tryz.prog 123 #[.agg #[.int .i64 t, .int .i64 n, .string s]] w fun e w' => e = .returned (.int .i64 (n % 18446744073709551616 % 1000003)) ∧ Below w.heap.size w w' := by
  go_enter Tryz.func123, Tryz.ntmps123
  go_wp2
  go_ret
  exact ⟨ret_int (hash_int n), below_first (Below.refl _ _)⟩
theorem hash_lib (t n : Int) (s : ByteArray) (w : World) (h2 : (t == 2) = false) (h : (t == 7) = true) (n0 : 1 ≤ n) (n1 : n ≤ 20) :
    Calls Tryz.prog 123 #[.agg #[.int .i64 t, .int .i64 n, .string s]] w fun e w' => e = .returned (.int .i64 (n + 7)) ∧ Below w.heap.size w w' := by
  go_enter Tryz.func123, Tryz.ntmps123
  go_wp2
  go_ret
  exact ⟨rfl, below_first (Below.refl _ _)⟩
theorem hash_text (t n : Int) (ws : List Int) (q : Nat) (w : World) (h2 : (t == 2) = false) (h7 : (t == 7) = false) (h : (t == 3) = true) (h1 : txtN ws q ≤ 160) :
    Calls Tryz.prog 123 #[.agg #[.int .i64 t, .int .i64 n, .string (txt ws q)]] w fun e w' => e = .returned (.int .i64 (hashK ws q (txtN ws q))) ∧ Below w.heap.size w w' := by
  go_enter Tryz.func123, Tryz.ntmps123
  go_wp2_with (go_at_call 127; refine (textHash_at ws q _ h1).mono ?_; rintro e w1 ⟨rfl, rfl⟩)
  go_ret
  exact ⟨rfl, below_first (Below.refl _ _)⟩
theorem hash_else (t n : Int) (s : ByteArray) (w : World) (h2 : (t == 2) = false) (h7 : (t == 7) = false) (h : (t == 3) = false) :
    Calls Tryz.prog 123 #[.agg #[.int .i64 t, .int .i64 n, .string s]] w fun e w' => e = .returned (.int .i64 n) ∧ Below w.heap.size w w' := by
  go_enter Tryz.func123, Tryz.ntmps123
  go_wp2
  go_ret
  exact ⟨rfl, below_first (Below.refl _ _)⟩
/-- A key as the program has it. -/
def kyN (ws : List Int) (t m : Int) : Int := if t = 3 then 0 else if t = 4 ∨ t = 5 ∨ t = 6 then rdN (wordAt ws (leadsAt ws m.toNat).toNat) else m
def kyS (ws : List Int) (t m : Int) : ByteArray := if t = 3 then txt ws (leadsAt ws m.toNat).toNat else ⟨#[]⟩
theorem hash_at (ws : List Int) (t m : Int) (w : World) (hv : vOk t m = true) (h0 : t ≠ 0) (h8 : t ≠ 8) (h9 : t ≠ 9) (hk : KeyIn ws t m) (hw : Words64 ws) :
    Calls Tryz.prog 123 #[.agg #[.int .i64 t, .int .i64 (kyN ws t m), .string (kyS ws t m)]] w fun e w' => e = .returned (.int .i64 (hashV ws t m)) ∧ Below w.heap.size w w' := by
  simp only [vOk, decide_eq_true_eq] at hv
  by_cases h2 : t = 2
  · have e1 : kyN ws t m = m := by simp [kyN, h2]
    have e2 : hashV ws t m = m % 18446744073709551616 % 1000003 := by simp [hashV, h2]
    rw [e1, e2]
    exact hash_num t m _ w (by simpa using h2)
  · by_cases h7 : t = 7
    · have e1 : kyN ws t m = m := by simp [kyN, h7]
      have e2 : hashV ws t m = m + 7 := by simp [hashV, h7]
      rw [e1, e2]
      exact hash_lib t m _ w (by simpa using h2) (by simpa using h7) (by omega) (by omega)
    · by_cases h3 : t = 3
      · have e1 : kyS ws t m = txt ws (leadsAt ws m.toNat).toNat := by simp [kyS, h3]
        have e2 : hashV ws t m = hashK ws (leadsAt ws m.toNat).toNat (txtN ws (leadsAt ws m.toNat).toNat) := by simp [hashV, h3]
        rw [e1, e2]
        have hx := word_in hw ((leadsAt ws m.toNat).toNat + 1)
        exact hash_text t _ ws _ w (by simpa using h2) (by simpa using h7) (by simpa using h3) (by have := (hk.2 h3).1; unfold txtN; omega)
      · by_cases h1 : t = 1
        · have e1 : kyN ws t m = m := by simp [kyN, h1]
          have e2 : hashV ws t m = m := by simp [hashV, h1]
          rw [e1, e2]
          exact hash_else t m _ w (by simpa using h2) (by simpa using h7) (by simpa using h3)
        · have e1 : kyN ws t m = rdN (wordAt ws (leadsAt ws m.toNat).toNat) := by unfold kyN; rw [if_neg h3, if_pos (by omega)]
          have e2 : hashV ws t m = rdN (wordAt ws (leadsAt ws m.toNat).toNat) := by simp [hashV, h1, h2, h7, h3]
          rw [e1, e2]
          exact hash_else t _ _ w (by simpa using h2) (by simpa using h7) (by simpa using h3)
end Go.Proofs.YthkjodelgbfcdaaGreat
