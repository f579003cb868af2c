/- The program's layNumbers, at both its kinds of numbers. -/
import Derived.Test.YtmckcnmlhgpnhaaGreatKImM
namespace Go.Proofs.YtmckcnmlhgpnhaaGreat
set_option maxRecDepth 20000
open Go.RowKit Go.Maps
set_option linter.unusedSimpArgs false
set_option linter.unusedVariables false

theorem le8_cons (z : Int) (k : Nat) : le8 z (k + 1) = z % 256 :: le8 (z / 256) k := by
  unfold le8
  rw [List.range_succ_eq_map, List.map_cons, List.map_map]
  congr 1
  · simp
  · apply List.map_congr_left
    intro i _
    show z / 256 ^ (i + 1) % 256 = z / 256 / 256 ^ i % 256
    rw [Int.ediv_ediv_of_nonneg (by omega), Int.pow_succ, Int.mul_comm]
/-- A row that grew: nothing turns but its own block; its block is the old one or a new one. -/
def Gr (w w' : World) (v v' : Value) : Prop := w.grownBy w' v.ownBlock ∧ (v'.ownBlock = v.ownBlock ∨ ∃ k, v'.ownBlock = some k ∧ w.heap.size ≤ k)
theorem Gr.refl (w : World) (v : Value) : Gr w w v v := ⟨⟨rfl, rfl, rfl, Nat.le_refl _, fun _ _ _ => rfl⟩, .inl rfl⟩
theorem Gr.ne {w w' : World} {v v' : Value} (h : Gr w w' v v') {b : Nat} (lb : b < w.heap.size) (hne : v.ownBlock ≠ some b) : v'.ownBlock ≠ some b := by
  rcases h.2 with e | ⟨k, e, hk⟩
  · rw [e]; exact hne
  · rw [e]; intro e2; simp at e2; omega
theorem Gr.trans {a b c : World} {u v x : Value} (h : Gr a b u v) (k : Gr b c v x) : Gr a c u x := by
  refine ⟨⟨k.1.os.trans h.1.os, k.1.tape.trans h.1.tape, k.1.output.trans h.1.output, Nat.le_trans h.1.size k.1.size, fun i hi hr => ?_⟩, ?_⟩
  · have hne := h.ne hi (fun e => hr e.symm)
    rw [k.1.block i (Nat.lt_of_lt_of_le hi h.1.size) (fun e => hne e.symm), h.1.block i hi hr]
  · rcases k.2 with e | ⟨i, e, hi⟩
    · rw [e]; exact h.2
    · exact .inr ⟨i, e, Nat.le_trans h.1.size hi⟩
theorem Gr.cell {w w' : World} {v v' : Value} (h : Gr w w' v v') {b o : Nat} (lb : b < w.heap.size) (hne : v.ownBlock ≠ some b) : w'.cell? ⟨b, o, none⟩ = w.cell? ⟨b, o, none⟩ := World.cell?_of_block (w := w) (a := ⟨b, o, none⟩) (h.1.block b lb (fun e => hne e.symm))
theorem Gr.of_below {w w' : World} (h : Below w.heap.size w w') (v : Value) : Gr w w' v v := ⟨⟨h.os, h.tape, h.output, h.size, fun k hk _ => h.block k hk⟩, .inl rfl⟩
theorem Gr.below {B : Nat} {w w' : World} {v v' : Value} (h : Gr w w' v v') (hB : B ≤ w.heap.size) (hv : ∀ k, v.ownBlock = some k → B ≤ k) : Below B w w' := ⟨h.1.os, h.1.tape, h.1.output, h.1.size, fun k hk => h.1.block k (Nat.lt_of_lt_of_le hk hB) (fun e => by have := hv k e.symm; omega)⟩
theorem Gr.append {w wr w1 : World} {v u v' : Value} {o : Obj} (h : Gr w wr v u) (hg : (wr.alloc o).grownBy w1 u.ownBlock) (hl : v'.ownBlock = u.ownBlock ∨ v'.ownBlock = some (wr.alloc o).heap.size) : Gr w w1 v v' := by
  have hsz : (wr.alloc o).heap.size = wr.heap.size + 1 := by simp
  refine h.trans ⟨⟨hg.os, hg.tape, hg.output, by have := hg.size; omega, fun k hk hr => ?_⟩, ?_⟩
  · rw [hg.block k (by omega) hr]
    exact Go.Deep.blk_alloc_lt _ _ _ hk
  · rcases hl with e | e
    · exact .inl e
    · exact .inr ⟨_, e, by omega⟩
theorem BR.lt {B : Nat} {w : World} {v : Value} {xs : List Int} (h : BR B w v xs) : ∀ k, v.ownBlock = some k → B ≤ k ∧ k < w.heap.size := World.ownsRow.lt h
set_option maxHeartbeats 4000000 in
theorem layU_at (B : Nat) (v : Value) (xs zs : List Int) (a : Option Addr) (cap : Nat) (w : World) (h : BR B w v xs) (hB : B ≤ w.heap.size) (hx : xs.length + 8 * zs.length ≤ 1000000) (hz : ∀ i, i < zs.length → 0 ≤ zs.getD i 0 ∧ zs.getD i 0 < 18446744073709551616)
    (hr : zs.length = 0 ∨ ∃ bn on, a = some ⟨bn, on, none⟩ ∧ bn < w.heap.size ∧ v.ownBlock ≠ some bn ∧ ∀ i, i < zs.length → w.cell? ⟨bn, on + i, none⟩ = some (.int .u64 (zs.getD i 0))) :
    Calls Tryz.prog 70 #[v, .slice a zs.length cap] w fun e w' => ∃ v', e = .returned v' ∧ BR B w' v' (xs ++ bytesU zs) ∧ Gr w w' v v' := by
  obtain ⟨i0, hi, hz0, hz1, hz2⟩ := info_parts infoU8
  have HB : Hid (B ≤ w.heap.size) := hB
  have H0 : Hid (BR B w v (xs ++ bytesU (zs.take 0))) := by show BR B w v (xs ++ bytesU (zs.take 0)); simpa [bytesU] using h
  have HR : Hid (zs.length = 0 ∨ ∃ bn on, a = some ⟨bn, on, none⟩ ∧ bn < w.heap.size ∧ v.ownBlock ≠ some bn ∧ ∀ i, i < zs.length → w.cell? ⟨bn, on + i, none⟩ = some (.int .u64 (zs.getD i 0))) := hr
  have HZ : Hid (∀ i, i < zs.length → 0 ≤ zs.getD i 0 ∧ zs.getD i 0 < 18446744073709551616) := hz
  skip
  have hzl : (zs.length : Int) ≤ 1000000 := by omega
  clear h hr hz 
  go_enter Tryz.func70, Tryz.ntmps70
  go_wp2
  go_loopw [0, 6, 7, 10] (fun u0 _ _ u10 wr => ∃ (k : Nat) (u : Value), k ≤ zs.length ∧ u = u0 ∧ u10 = .int .i64 k ∧ BR B wr u (xs ++ bytesU (zs.take k)) ∧ Gr w wr v u) (fun _ _ _ u10 _ => zs.length - (intOf u10).toNat)
  case atStart => exact ⟨0, _, Nat.zero_le _, rfl, rfl, H0.out, Gr.refl _ _⟩
  case round =>
    obtain ⟨k, u, hk, rfl, rfl, hU, hG⟩ := hrel
    by_cases hlt : k < zs.length
    · have hlt' : (k : Int) < (zs.length : Int) := by omega
      obtain ⟨bn, on, rfl, lbn, hne, hcn⟩ : ∃ bn on, a = some ⟨bn, on, none⟩ ∧ bn < w.heap.size ∧ v.ownBlock ≠ some bn ∧ ∀ i, i < zs.length → w.cell? ⟨bn, on + i, none⟩ = some (.int .u64 (zs.getD i 0)) := by
        rcases HR.out with h | h
        · omega
        · exact h
      have x0 : wr.cell? ⟨bn, on + k, none⟩ = some (.int .u64 (zs.getD k 0)) := by rw [hG.cell lbn hne]; exact hcn k hlt
      obtain ⟨q0, q1⟩ := HZ.out k hlt
      obtain ⟨z, hzz⟩ : ∃ z, z = zs.getD k 0 := ⟨_, rfl⟩
      have HT : Hid ((xs ++ bytesU (zs.take k)) ++ le8 z 8 = xs ++ bytesU (zs.take (k + 1))) := by show _ = _; rw [bytesU_take hlt, hzz, List.append_assoc]
      have hl : (xs ++ bytesU (zs.take k)).length ≤ 1000000 - 8 := by rw [List.length_append, bytesU_len, List.length_take]; omega
      skip
      rw [← hzz] at q0 q1 x0
      obtain ⟨ys, hys⟩ : ∃ ys, ys = xs ++ bytesU (zs.take k) := ⟨_, rfl⟩
      rw [← hys] at hU HT hl
      have HU : Hid (BR B wr u ys) := hU
      have HG : Hid (Gr w wr v u) := hG
      clear hU hG hys hzz hcn lbn hne H0
      go_wp2_with fail
      go_loopw [0, 7, 15] (fun u0 u7 u16 wr2 => ∃ (m : Nat) (r : Int) (u2 : Value) (ys2 : List Int), m ≤ 8 ∧ u2 = u0 ∧ u7 = .int .u64 r ∧ u16 = .int .i64 m ∧ 0 ≤ r ∧ r < 18446744073709551616 ∧ ys2.length ≤ 1000000 - 8 + m ∧ Hid (ys2 ++ le8 r (8 - m) = ys ++ le8 z 8) ∧ BR B wr2 u2 ys2 ∧ Gr w wr2 v u2) (fun _ _ u16 _ => 8 - (intOf u16).toNat)
      case atStart => exact ⟨0, _, _, ys, by omega, rfl, rfl, rfl, q0, q1, by omega, rfl, HU.out, HG.out⟩
      case round =>
        obtain ⟨m, r, u2, ys2, hm, rfl, rfl, rfl, r0, r1, hl2, HE, hU2, hG2⟩ := hrel
        have hs : B ≤ wr.heap.size := Nat.le_trans HB.out hG2.1.size
        have HG2 : Hid (Gr w wr v u2) := hG2
        have HU2 : Hid (BR B wr u2 ys2) := hU2
        by_cases hmm : m < 8
        · have hmm' : (m : Int) < 8 := by omega
          have HE2 : Hid ((ys2 ++ [r % 256]) ++ le8 (r / 256) (8 - (m + 1)) = ys ++ le8 z 8) := by
            show _ = _
            rw [← HE.out, show 8 - m = (8 - (m + 1)) + 1 by omega, le8_cons, List.append_assoc]
            rfl
          have a1 : (wr.alloc (.cells #[.int .u8 (r % 256)] 5)).ownsRow B 5 1 u2 ys2.length (bcl ys2) := BR.alloc hU2 _
          have hr2 : 0 ≤ r / 256 ∧ r / 256 < 18446744073709551616 := by omega
          clear hU2 hG2 HE HU HG
          go_wp2_with (at_builtin; refine wpList_append_own_at _ rfl _ _ 54 rfl B 5 i0 (.int .u8 0) 1 1 Tryz.underlying54 hi hz0 hz1 hz2 rfl (by decide) u2 ys2.length (bcl ys2) rfl a1 ⟨wr.heap.size, 0, none⟩ 1 1 [.int .u8 (r % 256)] rfl rfl (cell_one_new _ _ _) (ints_oneCell .u8 [_]) (by unfold maxLen; omega) (by omega) (by simp; omega) ?_)
          intro v' w2 hown' hgrow _ hloc
          have R := BR.step hs HU2.out (Below.refl B wr) hown' hgrow
          have HR2 : Hid (BR B w2 v' (ys2 ++ [r % 256])) := R.1
          have HG3 : Hid (Gr w w2 v v') := HG2.out.append hgrow (by simpa using hloc)
          clear R hown' hgrow hloc a1 HU2 HG2
          go_wp2
          go_roundw
          case rel => exact ⟨m + 1, r / 256, v', ys2 ++ [r % 256], by omega, rfl, rfl, by go_num, hr2.1, hr2.2, by simp only [List.length_append, List.length_cons, List.length_nil]; omega, HE2, HR2.out, HG3.out⟩
          case measure => simp [intOf]; omega
        · have hge : (8 : Int) ≤ (m : Int) := by omega
          have hys : ys2 = xs ++ bytesU (zs.take (k + 1)) := by
            have := HE.out
            rw [HT.out, show 8 - m = 0 by omega] at this
            simpa [le8] using this
          have HU3 : Hid (BR B wr u2 (xs ++ bytesU (zs.take (k + 1)))) := by rw [← hys]; exact hU2
          clear hys hU2 hG2 HE HU2
          go_wp2
          go_roundw
          case rel => exact ⟨k + 1, u2, by omega, rfl, by go_num, HU3.out, HG2.out⟩
          case measure => simp [intOf]; omega
    · have hge : (zs.length : Int) ≤ (k : Int) := by omega
      rw [List.take_of_length_le (by omega)] at hU
      have HU : Hid (BR B wr u (xs ++ bytesU zs)) := hU
      have HG : Hid (Gr w wr v u) := hG
      clear hU hG
      go_wp2
      go_ret
      exact ⟨_, rfl, HU.out, HG.out⟩
set_option maxHeartbeats 4000000 in
theorem layI_at (B : Nat) (v : Value) (xs zs : List Int) (a : Option Addr) (cap : Nat) (f : Nat → Int) (w : World) (h : BR B w v xs) (hB : B ≤ w.heap.size) (hx : xs.length + 8 * zs.length ≤ 1000000) (hz : ∀ i, i < zs.length → 0 ≤ zs.getD i 0 ∧ zs.getD i 0 < 18446744073709551616)
    (hr : zs.length = 0 ∨ ∃ bn on, a = some ⟨bn, on, none⟩ ∧ bn < w.heap.size ∧ v.ownBlock ≠ some bn ∧ ∀ i, i < zs.length → w.cell? ⟨bn, on + i, none⟩ = some (.int .i64 (f i))) (hf : ∀ i, i < zs.length → IntKind.u64.wrap (f i) = zs.getD i 0) :
    Calls Tryz.prog 68 #[v, .slice a zs.length cap] w fun e w' => ∃ v', e = .returned v' ∧ BR B w' v' (xs ++ bytesU zs) ∧ Gr w w' v v' := by
  obtain ⟨i0, hi, hz0, hz1, hz2⟩ := info_parts infoU8
  have HB : Hid (B ≤ w.heap.size) := hB
  have H0 : Hid (BR B w v (xs ++ bytesU (zs.take 0))) := by show BR B w v (xs ++ bytesU (zs.take 0)); simpa [bytesU] using h
  have HR : Hid (zs.length = 0 ∨ ∃ bn on, a = some ⟨bn, on, none⟩ ∧ bn < w.heap.size ∧ v.ownBlock ≠ some bn ∧ ∀ i, i < zs.length → w.cell? ⟨bn, on + i, none⟩ = some (.int .i64 (f i))) := hr
  have HZ : Hid (∀ i, i < zs.length → 0 ≤ zs.getD i 0 ∧ zs.getD i 0 < 18446744073709551616) := hz
  have HF : Hid (∀ i, i < zs.length → IntKind.u64.wrap (f i) = zs.getD i 0) := hf
  have hzl : (zs.length : Int) ≤ 1000000 := by omega
  clear h hr hz hf
  go_enter Tryz.func68, Tryz.ntmps68
  go_wp2
  go_loopw [0, 6, 7, 10] (fun u0 _ _ u10 wr => ∃ (k : Nat) (u : Value), k ≤ zs.length ∧ u = u0 ∧ u10 = .int .i64 k ∧ BR B wr u (xs ++ bytesU (zs.take k)) ∧ Gr w wr v u) (fun _ _ _ u10 _ => zs.length - (intOf u10).toNat)
  case atStart => exact ⟨0, _, Nat.zero_le _, rfl, rfl, H0.out, Gr.refl _ _⟩
  case round =>
    obtain ⟨k, u, hk, rfl, rfl, hU, hG⟩ := hrel
    by_cases hlt : k < zs.length
    · have hlt' : (k : Int) < (zs.length : Int) := by omega
      obtain ⟨bn, on, rfl, lbn, hne, hcn⟩ : ∃ bn on, a = some ⟨bn, on, none⟩ ∧ bn < w.heap.size ∧ v.ownBlock ≠ some bn ∧ ∀ i, i < zs.length → w.cell? ⟨bn, on + i, none⟩ = some (.int .i64 (f i)) := by
        rcases HR.out with h | h
        · omega
        · exact h
      have x0 : wr.cell? ⟨bn, on + k, none⟩ = some (.int .i64 (f k)) := by rw [hG.cell lbn hne]; exact hcn k hlt
      obtain ⟨q0, q1⟩ := HZ.out k hlt
      obtain ⟨z, hzz⟩ : ∃ z, z = zs.getD k 0 := ⟨_, rfl⟩
      have HT : Hid ((xs ++ bytesU (zs.take k)) ++ le8 z 8 = xs ++ bytesU (zs.take (k + 1))) := by show _ = _; rw [bytesU_take hlt, hzz, List.append_assoc]
      have hl : (xs ++ bytesU (zs.take k)).length ≤ 1000000 - 8 := by rw [List.length_append, bytesU_len, List.length_take]; omega
      have hfk := HF.out k hlt
      rw [← hzz] at q0 q1 hfk
      obtain ⟨ys, hys⟩ : ∃ ys, ys = xs ++ bytesU (zs.take k) := ⟨_, rfl⟩
      rw [← hys] at hU HT hl
      have HU : Hid (BR B wr u ys) := hU
      have HG : Hid (Gr w wr v u) := hG
      clear hU hG hys hzz hcn lbn hne H0
      go_wp2_with fail
      go_loopw [0, 7, 16] (fun u0 u7 u16 wr2 => ∃ (m : Nat) (r : Int) (u2 : Value) (ys2 : List Int), m ≤ 8 ∧ u2 = u0 ∧ u7 = .int .u64 r ∧ u16 = .int .i64 m ∧ 0 ≤ r ∧ r < 18446744073709551616 ∧ ys2.length ≤ 1000000 - 8 + m ∧ Hid (ys2 ++ le8 r (8 - m) = ys ++ le8 z 8) ∧ BR B wr2 u2 ys2 ∧ Gr w wr2 v u2) (fun _ _ u16 _ => 8 - (intOf u16).toNat)
      case atStart => exact ⟨0, _, _, ys, by omega, rfl, rfl, rfl, q0, q1, by omega, rfl, HU.out, HG.out⟩
      case round =>
        obtain ⟨m, r, u2, ys2, hm, rfl, rfl, rfl, r0, r1, hl2, HE, hU2, hG2⟩ := hrel
        have hs : B ≤ wr.heap.size := Nat.le_trans HB.out hG2.1.size
        have HG2 : Hid (Gr w wr v u2) := hG2
        have HU2 : Hid (BR B wr u2 ys2) := hU2
        by_cases hmm : m < 8
        · have hmm' : (m : Int) < 8 := by omega
          have HE2 : Hid ((ys2 ++ [r % 256]) ++ le8 (r / 256) (8 - (m + 1)) = ys ++ le8 z 8) := by
            show _ = _
            rw [← HE.out, show 8 - m = (8 - (m + 1)) + 1 by omega, le8_cons, List.append_assoc]
            rfl
          have a1 : (wr.alloc (.cells #[.int .u8 (r % 256)] 5)).ownsRow B 5 1 u2 ys2.length (bcl ys2) := BR.alloc hU2 _
          have hr2 : 0 ≤ r / 256 ∧ r / 256 < 18446744073709551616 := by omega
          clear hU2 hG2 HE HU HG
          go_wp2_with (at_builtin; refine wpList_append_own_at _ rfl _ _ 54 rfl B 5 i0 (.int .u8 0) 1 1 Tryz.underlying54 hi hz0 hz1 hz2 rfl (by decide) u2 ys2.length (bcl ys2) rfl a1 ⟨wr.heap.size, 0, none⟩ 1 1 [.int .u8 (r % 256)] rfl rfl (cell_one_new _ _ _) (ints_oneCell .u8 [_]) (by unfold maxLen; omega) (by omega) (by simp; omega) ?_)
          intro v' w2 hown' hgrow _ hloc
          have R := BR.step hs HU2.out (Below.refl B wr) hown' hgrow
          have HR2 : Hid (BR B w2 v' (ys2 ++ [r % 256])) := R.1
          have HG3 : Hid (Gr w w2 v v') := HG2.out.append hgrow (by simpa using hloc)
          clear R hown' hgrow hloc a1 HU2 HG2
          go_wp2
          go_roundw
          case rel => exact ⟨m + 1, r / 256, v', ys2 ++ [r % 256], by omega, rfl, rfl, by go_num, hr2.1, hr2.2, by simp only [List.length_append, List.length_cons, List.length_nil]; omega, HE2, HR2.out, HG3.out⟩
          case measure => simp [intOf]; omega
        · have hge : (8 : Int) ≤ (m : Int) := by omega
          have hys : ys2 = xs ++ bytesU (zs.take (k + 1)) := by
            have := HE.out
            rw [HT.out, show 8 - m = 0 by omega] at this
            simpa [le8] using this
          have HU3 : Hid (BR B wr u2 (xs ++ bytesU (zs.take (k + 1)))) := by rw [← hys]; exact hU2
          clear hys hU2 hG2 HE HU2
          go_wp2
          go_roundw
          case rel => exact ⟨k + 1, u2, by omega, rfl, by go_num, HU3.out, HG2.out⟩
          case measure => simp [intOf]; omega
    · have hge : (zs.length : Int) ≤ (k : Int) := by omega
      rw [List.take_of_length_le (by omega)] at hU
      have HU : Hid (BR B wr u (xs ++ bytesU zs)) := hU
      have HG : Hid (Gr w wr v u) := hG
      clear hU hG
      go_wp2
      go_ret
      exact ⟨_, rfl, HU.out, HG.out⟩
end Go.Proofs.YtmckcnmlhgpnhaaGreat
