/- The program's readNumbers and sumOf. -/
import Derived.Test.YtmckcnmlhgpnhaaGreatKIiA
namespace Go.Proofs.YtmckcnmlhgpnhaaGreat
set_option maxRecDepth 20000
open Go.RowKit Go.Maps
set_option linter.unusedSimpArgs false
set_option linter.unusedVariables false

/-- The number that bytes are, the lowest first. -/
def valB : List Int → Int
  | [] => 0
  | x :: l => x + 256 * valB l
theorem valB_snoc : ∀ (l : List Int) (x : Int), valB (l ++ [x]) = valB l + x * 256 ^ l.length
  | [], x => by simp [valB]
  | y :: l, x => by
    simp only [List.cons_append, valB, List.length_cons]
    rw [valB_snoc l x, Int.pow_succ, Int.mul_add, Int.add_assoc]
    congr 2
    rw [Int.mul_comm (256 ^ l.length) 256, ← Int.mul_assoc, Int.mul_comm 256 x, Int.mul_assoc]
theorem valB_bound : ∀ (l : List Int), (∀ x ∈ l, 0 ≤ x ∧ x < 256) → 0 ≤ valB l ∧ valB l < 256 ^ l.length
  | [], _ => by simp [valB]
  | x :: l, h => by
    have h1 := h x (by simp)
    have h2 := valB_bound l (fun y hy => h y (by simp [hy]))
    simp only [valB, List.length_cons, Int.pow_succ]
    omega
theorem valB_le8 : ∀ (k : Nat) (z : Int), valB (le8 z k) = z % 256 ^ k
  | 0, z => by simp [le8, valB, Int.emod_one]
  | k + 1, z => by
    rw [le8_cons, valB, valB_le8 k]
    have e : (256 : Int) ^ (k + 1) = 256 * 256 ^ k := by rw [Int.pow_succ, Int.mul_comm]
    have h1 := Int.emod_def z (256 * 256 ^ k)
    have h2 := Int.emod_def z 256
    have h3 := Int.emod_def (z / 256) (256 ^ k)
    have h4 : z / (256 * 256 ^ k) = z / 256 / 256 ^ k := (Int.ediv_ediv_of_nonneg (by omega)).symm
    rw [e, h1, h2, h3, h4, Int.mul_sub, Int.mul_assoc]
    omega
/-- The bytes of the j-th number among the first i bytes. -/
def partB (bs : List Int) (i j : Nat) : List Int := ((bs.take i).drop (8 * j)).take 8
theorem partB_zero (bs : List Int) (j : Nat) : partB bs 0 j = [] := by simp [partB]
theorem partB_step {bs : List Int} {i j : Nat} (hi : i < bs.length) : partB bs (i + 1) j = if j = i / 8 then partB bs i j ++ [bs.getD i 0] else partB bs i j := by
  unfold partB
  rw [List.take_succ_eq_append_getElem hi]
  have hl : (bs.take i).length = i := by rw [List.length_take]; omega
  split
  · rename_i e
    subst e
    have h2 : ((bs.take i).drop (8 * (i / 8))).length = i - 8 * (i / 8) := by rw [List.length_drop, hl]
    rw [List.drop_append_of_le_length (by omega), List.take_append]
    congr 1
    rw [List.take_of_length_le (by rw [h2]; simp; omega)]
    simp [hi]
  · rename_i e
    by_cases h : j < i / 8
    · rw [List.drop_append_of_le_length (by omega), List.take_append_of_le_length (by rw [List.length_drop, hl]; omega)]
    · rw [List.drop_of_length_le (by simp; omega), List.drop_of_length_le (by omega)]
theorem partB_len {bs : List Int} {i : Nat} (hi : i < bs.length) : (partB bs i (i / 8)).length = i % 8 := by
  unfold partB
  simp
  omega
/-- The numbers that n times eight bytes are. -/
def numsB (bs : List Int) (n : Nat) : List Int := (List.range n).map fun j => valB ((bs.drop (8 * j)).take 8)
theorem numsB_len (bs : List Int) (n : Nat) : (numsB bs n).length = n := by simp [numsB]
theorem numsB_at (bs : List Int) (n j : Nat) (h : j < n) : (numsB bs n).getD j 0 = valB (partB bs bs.length j) := by
  unfold numsB partB
  simp [h]
theorem bytesU_cons (z : Int) (l : List Int) : bytesU (z :: l) = le8 z 8 ++ bytesU l := rfl
theorem bytesU_drop (l : List Int) : ∀ j, (bytesU l).drop (8 * j) = bytesU (l.drop j) := by
  induction l with
  | nil => intro j; simp [bytesU]
  | cons z l ih =>
    intro j
    have e : bytesU (z :: l) = le8 z 8 ++ bytesU l := by simp [bytesU]
    cases j with
    | zero => simp
    | succ j =>
      rw [e, List.drop_append, List.drop_of_length_le (by rw [le8_len]; omega), le8_len, List.nil_append, show 8 * (j + 1) - 8 = 8 * j by omega, ih j]
      simp
theorem numsB_bytesU {l : List Int} (hz : ∀ z ∈ l, 0 ≤ z ∧ z < 18446744073709551616) : numsB (bytesU l) l.length = l := by
  apply List.ext_getElem
  · rw [numsB_len]
  · intro i h1 h2
    have h3 : (numsB (bytesU l) l.length)[i] = valB (((bytesU l).drop (8 * i)).take 8) := by simp [numsB]
    rw [h3, bytesU_drop, List.drop_eq_getElem_cons h2]
    have hb := hz l[i] (List.getElem_mem h2)
    rw [bytesU_cons, List.take_append_of_le_length (by rw [le8_len]; omega), List.take_of_length_le (by rw [le8_len]; omega), valB_le8, show (256 : Int) ^ 8 = 18446744073709551616 from rfl]
    omega
theorem nat_low_high (i n m : Nat) (h : n < 2 ^ i) : n ||| (m * 2 ^ i) = n + m * 2 ^ i := by
  rw [Nat.or_comm, Nat.mul_comm, ← Nat.two_pow_add_eq_or_of_lt h]
  omega
theorem or_low_high (a b : Int) (i : Nat) (ha : 0 ≤ a) (hb : 0 ≤ b) (hi : i ≤ 63) (h : a < ((2 ^ i : Nat) : Int)) (hb' : b * ((2 ^ i : Nat) : Int) < 18446744073709551616) : bits .or .u64 a (b * ((2 ^ i : Nat) : Int)) = a + b * ((2 ^ i : Nat) : Int) := by
  have hp : 2 ^ i ≤ 2 ^ 63 := Nat.pow_le_pow_right (by omega) hi
  obtain ⟨n, rfl⟩ := Int.eq_ofNat_of_zero_le ha
  obtain ⟨m, rfl⟩ := Int.eq_ofNat_of_zero_le hb
  have e : (m : Int) * ((2 ^ i : Nat) : Int) = ((m * 2 ^ i : Nat) : Int) := by simp
  rw [e] at hb' ⊢
  rw [u64_or _ _ (by omega) (by omega) (by omega) hb']
  simp only [Int.toNat_natCast]
  rw [nat_low_high i n m (by omega)]
  simp
theorem makeU64 (l : Int) (h0 : 0 ≤ l) (h1 : l ≤ 1048576) (w : World) : (Instr.makeSlice 22 (.int .i64 l) (.int .i64 l)).run Tryz.prog w = .ok (.slice (some ⟨w.heap.size, 0, none⟩) l.toNat l.toNat) (w.alloc (.cells (madeCells #[.int .u64 0] l.toNat) 100)) := by
  obtain ⟨i, hi, hzz⟩ := Option.map_eq_some_iff.1 infoU64
  simp only [Prod.mk.injEq] at hzz
  obtain ⟨hz, hs, hb⟩ := hzz
  have := run_make (P := Tryz.prog) w 22 100 i _ Tryz.underlying22 hi hz .i64 .i64 l l h0 (Int.le_refl _) (by rw [hb]; omega) (by omega)
  rw [hs, Nat.mul_one] at this
  exact this
theorem ur_of_row {w : World} {g n : Nat} {xs : List Int} (hn : xs.length = n) (h1 : n ≤ 1048576) (h : w.rowIs g 100 n (fun j => .int .u64 (xs.getD j 0))) : UR g w (.slice (some ⟨g, 0, none⟩) n n) xs := by
  obtain ⟨cur, hc, hs, hf⟩ := h
  unfold UR
  rw [hn]
  refine ⟨by rw [ucl_len, hn, Nat.mul_one], .inr ⟨g, n, cur, rfl, Nat.le_refl _, hc, Nat.le_refl _, by unfold maxLen; omega, by omega, ?_⟩⟩
  apply List.ext_getElem?
  intro i
  by_cases hi : i < n
  · rw [List.getElem?_take_of_lt (by omega), ucl_at xs i (by omega)]
    have := hf i hi
    simpa using this
  · rw [List.getElem?_eq_none (by simp; omega), List.getElem?_eq_none (by rw [ucl_len]; omega)]
set_option maxHeartbeats 4000000 in
theorem readN_at (n : Nat) (bs : List Int) (hl : bs.length = 8 * n) (hn : n ≤ 100000) (hb : ∀ x ∈ bs, 0 ≤ x ∧ x < 256) (a : Option Addr) (cap : Nat) (w : World) (hr : SlF w.heap.size w (.slice a bs.length cap) bs.length bs.length (fun i => .int .u8 (bs.getD i 0))) :
    Calls Tryz.prog 72 #[.slice a bs.length cap] w fun e w' => e = .returned (.slice (some ⟨w.heap.size, 0, none⟩) n n) ∧ UR w.heap.size w' (.slice (some ⟨w.heap.size, 0, none⟩) n n) (numsB bs n) ∧ Below w.heap.size w w' := by
  have HR : Hid (SlF w.heap.size w (.slice a bs.length cap) bs.length bs.length (fun i => .int .u8 (bs.getD i 0))) := hr
  have HBB : Hid (∀ x ∈ bs, 0 ≤ x ∧ x < 256) := hb
  have hm1 := makeU64 (n : Int) (by omega) (by omega)
  rw [Int.toNat_natCast] at hm1
  have hq : (bs.length : Int).tdiv 8 = (n : Int) := by rw [Int.tdiv_eq_ediv_of_nonneg (by omega)]; omega
  have HL : Hid (bs.length = 8 * n) := hl
  have hl' : (bs.length : Int) ≤ 800000 := by omega
  have hn' : (n : Int) ≤ 100000 := by omega
  clear hr hb hl
  go_enter Tryz.func72, Tryz.ntmps72
  go_upto_region 2 with fail
  clear hm1 hq
  obtain ⟨w2, hw2⟩ : ∃ V, V = w.alloc (.cells (madeCells #[.int .u64 0] n) 100) := ⟨_, rfl⟩
  rw [← hw2]
  have B2 : Hid (Below w.heap.size w w2) := by rw [hw2]; exact (Below.refl _ _).alloc (Nat.le_refl _) _
  have z2 : w.heap.size < w2.heap.size := by rw [hw2]; simp
  have R2 : Hid (w2.rowIs w.heap.size 100 n (fun j => .int .u64 (valB (partB bs 0 j)))) := by
    rw [hw2]
    exact (World.rowIs_made w (.int .u64 0) n 100).congr fun j _ => by rw [partB_zero]; rfl
  clear hw2
  go_wp2_with fail
  go_loopw [4, 5, 6, 13] (fun _ _ _ u13 wr => ∃ i : Nat, i ≤ bs.length ∧ u13 = .int .i64 i ∧ wr.rowIs w.heap.size 100 n (fun j => .int .u64 (valB (partB bs i j))) ∧ Below w.heap.size w wr) (fun _ _ _ u13 _ => bs.length - (intOf u13).toNat)
  case atStart => exact ⟨0, Nat.zero_le _, rfl, R2.out, B2.out⟩
  case round =>
    obtain ⟨i, hi, rfl, hR, hF⟩ := hrel
    by_cases hlt : i < bs.length
    · have hlt' : (i : Int) < (bs.length : Int) := by omega
      obtain ⟨bb, ob, cb, hv, _, lbb, hcb⟩ := HR.out.parts (k := i) hlt
      simp only [Value.slice.injEq] at hv
      obtain ⟨rfl, _, rfl⟩ := hv
      have x0 : wr.cell? ⟨bb, ob + i, none⟩ = some (.int .u8 (bs.getD i 0)) := by rw [hF.cell (p := ⟨bb, ob + i, none⟩) lbb]; exact hcb i hlt
      obtain ⟨c0, c1⟩ := HBB.out (bs.getD i 0) (by simp [hlt])
      obtain ⟨q, hqq⟩ : ∃ q, q = i / 8 := ⟨_, rfl⟩
      have hqn : q < n := by have := HL.out; omega
      have hqn' : (q : Int) < (n : Int) := by omega
      have y0 := hR.cell (i := q) hqn
      have fz := hR.frozen
      have lgr := hR.lt
      have hpb := valB_bound (partB bs i q) (fun x hx => HBB.out x (by
        have h1 := List.mem_of_mem_take hx
        have h2 := List.mem_of_mem_drop h1
        exact List.mem_of_mem_take h2))
      have hpl : (partB bs i q).length = i % 8 := by rw [hqq]; exact partB_len hlt
      rw [hpl] at hpb
      have hqd : (i : Int).tdiv 8 = (q : Int) := by rw [Int.tdiv_eq_ediv_of_nonneg (by omega)]; omega
      have HST : Hid (∀ j, valB (partB bs (i + 1) j) = if j = q then valB (partB bs i q) + bs.getD i 0 * 256 ^ (i % 8) else valB (partB bs i j)) := fun j => by
        rw [partB_step hlt, ← hqq]
        split
        · rename_i e
          subst e
          rw [valB_snoc, hpl]
        · rfl
      have HR2 : Hid (wr.rowIs w.heap.size 100 n (fun j => .int .u64 (valB (partB bs i j)))) := hR
      have HF : Hid (Below w.heap.size w wr) := hF
      generalize valB (partB bs i q) = x at y0 hpb HST
      generalize bs.getD i 0 = c at x0 c0 c1 HST
      obtain ⟨m, hm⟩ : ∃ m, m = i % 8 := ⟨_, rfl⟩
      have hm8 : m < 8 := by omega
      rw [← hm] at hpb HST
      have hrem : (i : Int).tmod 8 = (m : Int) := by rw [Int.tmod_eq_emod_of_nonneg (by omega)]; omega
      have HOR : Hid (bits .or .u64 x (c * ((2 ^ (8 * m) : Nat) : Int)) = x + c * 256 ^ m ∧ IntKind.u64.wrap (c * ((2 ^ (8 * m) : Nat) : Int)) = c * ((2 ^ (8 * m) : Nat) : Int)) := by
        rcases (by omega : m = 0 ∨ m = 1 ∨ m = 2 ∨ m = 3 ∨ m = 4 ∨ m = 5 ∨ m = 6 ∨ m = 7) with rfl | rfl | rfl | rfl | rfl | rfl | rfl | rfl
        all_goals
          refine ⟨?_, ?_⟩
          · rw [or_low_high x c _ hpb.1 c0 (by omega) (by simpa using hpb.2) (by simp; omega)]
            simp
          · rw [IntKind.wrap_u64]
            simp
            omega
      clear hR hF hcb hpl hqq hm hi
      rcases (by omega : m = 0 ∨ m = 1 ∨ m = 2 ∨ m = 3 ∨ m = 4 ∨ m = 5 ∨ m = 6 ∨ m = 7) with rfl | rfl | rfl | rfl | rfl | rfl | rfl | rfl
      all_goals
        obtain ⟨o1, o2⟩ := HOR.out
        simp at o1 o2
        go_wp2
        go_roundw
        case rel => exact ⟨i + 1, by omega, by go_num, (HR2.out.set q _).congr fun j hj => by rw [HST.out j]; split <;> simp_all, HF.out.setCell (p := ⟨w.heap.size, q, none⟩) (Nat.le_refl _) _⟩
        case measure => simp [intOf]; omega
    · have hge : (bs.length : Int) ≤ (i : Int) := by omega
      obtain rfl : i = bs.length := by omega
      have HU : Hid (UR w.heap.size wr (.slice (some ⟨w.heap.size, 0, none⟩) n n) (numsB bs n)) := ur_of_row (numsB_len bs n) (by omega) (hR.congr fun j hj => by rw [numsB_at bs n j hj])
      have HF : Hid (Below w.heap.size w wr) := hF
      clear hR hF
      go_wp2
      go_ret
      exact ⟨rfl, HU.out, HF.out⟩
set_option maxHeartbeats 1000000 in
theorem sumOf_at (zs : List Int) (a : Option Addr) (cap : Nat) (T : Nat) (w : World) (hn : zs.length ≤ 1048576) (hr : SlF T w (.slice a zs.length cap) zs.length zs.length (fun i => .int .u64 (zs.getD i 0))) :
    Calls Tryz.prog 71 #[.slice a zs.length cap] w fun e w' => e = .returned (.int .u64 (sumU zs)) ∧ w' = w := by
  have HR : Hid (SlF w.heap.size w (.slice a zs.length cap) zs.length zs.length (fun i => .int .u64 (zs.getD i 0))) := hr.here
  have hn' : (zs.length : Int) ≤ 1048576 := by omega
  clear hr
  go_enter Tryz.func71, Tryz.ntmps71
  go_wp2_with fail
  go_loopw [3, 5, 8] (fun u3 _ u8 wr => ∃ k : Nat, k ≤ zs.length ∧ u3 = .int .u64 (sumU (zs.take k)) ∧ u8 = .int .i64 k ∧ wr = w) (fun _ _ u8 _ => zs.length - (intOf u8).toNat)
  case atStart => exact ⟨0, Nat.zero_le _, rfl, rfl, rfl⟩
  case round =>
    obtain ⟨k, hk, rfl, rfl, he⟩ := hrel
    subst he
    by_cases hlt : k < zs.length
    · have hlt' : (k : Int) < (zs.length : Int) := by omega
      obtain ⟨b, o, c, hv, _, lb, hc⟩ := HR.out.parts (k := k) hlt
      simp only [Value.slice.injEq] at hv
      obtain ⟨rfl, _, rfl⟩ := hv
      have x0 := hc k hlt
      have HS : Hid (sumU (zs.take (k + 1)) = IntKind.u64.wrap (sumU (zs.take k) + zs.getD k 0)) := sumU_take hlt
      clear hc
      generalize sumU (zs.take k) = s at HS ⊢
      generalize zs.getD k 0 = z at HS x0
      go_wp2
      go_roundw
      case rel => exact ⟨k + 1, by omega, by rw [HS.out], by go_num, by first | rfl | trivial⟩
      case measure => simp [intOf]; omega
    · have hge : (zs.length : Int) ≤ (k : Int) := by omega
      have HS : Hid (sumU (zs.take k) = sumU zs) := by show _ = _; rw [List.take_of_length_le (by omega)]
      generalize sumU (zs.take k) = s at HS ⊢
      go_wp2
      go_ret
      exact ⟨by have h := HS.out; subst h; rfl, rfl⟩
end Go.Proofs.YtmckcnmlhgpnhaaGreat
