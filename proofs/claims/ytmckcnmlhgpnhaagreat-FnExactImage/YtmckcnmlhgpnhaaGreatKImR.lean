/- Rows of bytes of a call's own, that grow; eight bytes of a number. -/
import Derived.Test.YtmckcnmlhgpnhaaGreatProg
import Derived.Test.YtmckcnmlhgpnhaaGreatKRowF
import Derived.Deep.OwnRows
import Derived.Maps.AppendAt
import Derived.OwnWalk
namespace Go.Proofs.YtmckcnmlhgpnhaaGreat
set_option maxRecDepth 20000
open Go.RowKit Go.Maps
set_option linter.unusedSimpArgs false
set_option linter.unusedVariables false

theorem infoU8 : (Tryz.prog.info? 5).map (fun i => (i.zero, i.size, i.bytes)) = some (some (.int .u8 0), 1, 1) := by kernel_rfl
def bcl (xs : List Int) : List Value := xs.map fun x => .int .u8 x
theorem bcl_len (xs : List Int) : (bcl xs).length = xs.length := by simp [bcl]
theorem bcl_snoc (xs : List Int) (x : Int) : bcl (xs ++ [x]) = bcl xs ++ [.int .u8 x] := by simp [bcl]
theorem bcl_at (xs : List Int) (i : Nat) (h : i < xs.length) : (bcl xs)[i]? = some (.int .u8 (xs.getD i 0)) := by simp [bcl, h]
/-- A row of numbers in a block of its own, from block B on. -/
def BR (B : Nat) (w : World) (v : Value) (xs : List Int) : Prop := w.ownsRow B 5 1 v xs.length (bcl xs)
theorem BR.form {B : Nat} {w : World} {v : Value} {xs : List Int} (h : BR B w v xs) : ∃ a c, v = .slice a xs.length c := by
  obtain ⟨_, ⟨rfl, h0⟩ | ⟨g, cap, cur, rfl, _⟩⟩ := h
  · exact ⟨none, 0, by rw [h0]⟩
  · exact ⟨_, _, rfl⟩
theorem BR.nil (B : Nat) (w : World) : BR B w (.slice none 0 0) [] := World.ownsRow_nil w B _ 1
theorem BR.alloc {B : Nat} {w : World} {v : Value} {xs : List Int} (h : BR B w v xs) (o : Obj) : BR B (w.alloc o) v xs := World.ownsRow.alloc h o
theorem BR.below {B : Nat} {w w' : World} {v : Value} {xs : List Int} (h : BR B w v xs) (hb : Below w.heap.size w w') : BR B w' v xs :=
  World.ownsRow.kept h (row := none) ⟨hb.os, hb.tape, hb.output, hb.size, fun k hk _ => hb.block k hk⟩ (by cases v.ownBlock <;> simp)
theorem BR.mono {B C : Nat} {w : World} {v : Value} {xs : List Int} (h : BR B w v xs) (hC : C ≤ B) : BR C w v xs := by
  obtain ⟨h1, h2⟩ := h
  refine ⟨h1, ?_⟩
  rcases h2 with h2 | ⟨g, cap, cur, hv, hg, r⟩
  · exact .inl h2
  · exact .inr ⟨g, cap, cur, hv, Nat.le_trans hC hg, r⟩
theorem BR.sl {B : Nat} {w : World} {v : Value} {xs : List Int} (h : BR B w v xs) : SlF w.heap.size w v xs.length xs.length (fun i => .int .u8 (xs.getD i 0)) := by
  obtain ⟨h1, ⟨rfl, h0⟩ | ⟨g, cap, cur, rfl, hg, hc, hn, hcap, hs, hx⟩⟩ := h
  · exact ⟨none, 0, by rw [h0], .inl h0⟩
  · have lg : g < w.heap.size := by
      rcases Nat.lt_or_ge g w.heap.size with h | h
      · exact h
      · rw [Array.getElem?_eq_none h] at hc; cases hc
    refine ⟨_, cap, rfl, .inr ⟨g, 0, rfl, lg, lg, fun i hi => ?_⟩⟩
    have hown : w.ownsRow B 5 1 (.slice (some ⟨g, 0, none⟩) xs.length cap) xs.length (bcl xs) := ⟨h1, .inr ⟨g, cap, cur, rfl, hg, hc, hn, hcap, hs, hx⟩⟩
    rw [Nat.zero_add, hown.cellAt i (by omega)]
    exact bcl_at xs i hi
theorem BR.step {B : Nat} {w wr w1 : World} {u v' : Value} {o : Obj} {xs : List Int} {x : Int} (hB : B ≤ wr.heap.size) (hown : BR B wr u xs) (hnx : Below B w wr)
    (hown' : w1.ownsRow B 5 1 v' (xs.length + 1) (bcl xs ++ [.int .u8 x])) (hgrow : (wr.alloc o).grownBy w1 u.ownBlock) : BR B w1 v' (xs ++ [x]) ∧ Below B w w1 := by
  refine ⟨?_, (hnx.alloc hB o).grown hgrow (by simp; omega) (fun j hj => by have := (World.ownsRow.lt hown j hj).1; omega)⟩
  unfold BR
  rw [bcl_snoc, List.length_append]
  exact hown'
theorem BR.new {B : Nat} {w : World} (xs : List Int) (hB : B ≤ w.heap.size) (hl : xs.length ≤ 1048576) : BR B (w.alloc (.cells (bcl xs).toArray 5)) (.slice (some ⟨w.heap.size, 0, none⟩) xs.length xs.length) xs := by
  refine ⟨by rw [bcl_len, Nat.mul_one], .inr ⟨w.heap.size, xs.length, (bcl xs).toArray, rfl, hB, Go.Deep.blk_alloc_new _ _, Nat.le_refl _, by unfold maxLen; omega, by simp [bcl_len], ?_⟩⟩
  rw [List.toList_toArray, List.take_of_length_le (by rw [bcl_len]; omega)]
theorem BR.take {B : Nat} {w : World} {a : Option Addr} {c : Nat} {xs : List Int} (h : BR B w (.slice a xs.length c) xs) {m : Nat} (hm : m ≤ xs.length) : BR B w (.slice a m c) (xs.take m) := by
  obtain ⟨h1, ⟨hv, h0⟩ | ⟨g, cap, cur, hv, hg, hc, hn, hcap, hs, hx⟩⟩ := h
  · simp only [Value.slice.injEq] at hv
    obtain ⟨rfl, _, rfl⟩ := hv
    obtain rfl : m = 0 := by omega
    obtain rfl : xs = [] := List.eq_nil_of_length_eq_zero h0
    exact BR.nil _ _
  · simp only [Value.slice.injEq] at hv
    obtain ⟨rfl, _, rfl⟩ := hv
    have e : (xs.take m).length = m := by rw [List.length_take]; omega
    unfold BR
    rw [e]
    refine ⟨by rw [bcl_len, e, Nat.mul_one], .inr ⟨g, c, cur, rfl, hg, hc, by omega, hcap, hs, ?_⟩⟩
    have : bcl (xs.take m) = (bcl xs).take m := by simp [bcl, List.map_take]
    rw [this, ← hx, List.take_take, Nat.mul_one, Nat.mul_one, Nat.min_eq_left hm]
/-- The first k bytes of a number, the lowest first. -/
def le8 (z : Int) (k : Nat) : List Int := (List.range k).map fun i => z / 256 ^ i % 256
theorem le8_succ (z : Int) (k : Nat) : le8 z (k + 1) = le8 z k ++ [z / 256 ^ k % 256] := by simp [le8, List.range_succ]
theorem le8_len (z : Int) (k : Nat) : (le8 z k).length = k := by simp [le8]
set_option maxHeartbeats 1000000 in
theorem l15Bytes_at (B : Nat) (v : Value) (xs : List Int) (z : Int) (w : World) (h : BR B w v xs) (hB : B ≤ w.heap.size) (hx : xs.length ≤ 200000) (z0 : 0 ≤ z) (z1 : z < 18446744073709551616) :
    Calls Tryz.prog 67 #[v, .int .u64 z] w fun e w' => ∃ v', e = .returned v' ∧ BR B w' v' (xs ++ le8 z 8) ∧ Below B w w' := by
  obtain ⟨i0, hi, hz0, hz1, hz2⟩ := info_parts infoU8
  have HB : Hid (B ≤ w.heap.size) := hB
  have H0 : Hid (BR B w v (xs ++ le8 z 0)) := by show BR B w v (xs ++ le8 z 0); simpa [le8] using h
  clear h
  go_enter Tryz.func67, Tryz.ntmps67
  go_wp2
  go_loopw [0, 5] (fun v i wr => ∃ (k : Nat) (u : Value), k ≤ 8 ∧ u = v ∧ i = .int .i64 k ∧ BR B wr u (xs ++ le8 z k) ∧ Below B w wr) (fun _ i _ => 8 - (intOf i).toNat)
  case atStart => exact ⟨0, _, by omega, rfl, rfl, H0.out, Below.refl _ _⟩
  case round =>
    obtain ⟨k, u, hk, rfl, rfl, hR, hF⟩ := hrel
    by_cases hlt : k < 8
    · have hlt' : (k : Int) < 8 := by omega
      have HR : Hid (BR B wr u (xs ++ le8 z k)) := hR
      have HF : Hid (Below B w wr) := hF
      have hs : B ≤ wr.heap.size := Nat.le_trans HB.out hF.size
      have hl : (xs ++ le8 z k).length ≤ 200008 := by simp [le8_len]; omega
      have hL : xs ++ le8 z (k + 1) = (xs ++ le8 z k) ++ [z / 256 ^ k % 256] := by rw [le8_succ, ← List.append_assoc]
      have HL : Hid (xs ++ le8 z (k + 1) = (xs ++ le8 z k) ++ [z / 256 ^ k % 256]) := hL
      clear hL
      generalize xs ++ le8 z k = ys at HR hl HL
      clear hR hF H0
      obtain ⟨K, hK⟩ : ∃ K, K = k := ⟨_, rfl⟩
      rw [← hK] at HL
      rcases (by omega : k = 0 ∨ k = 1 ∨ k = 2 ∨ k = 3 ∨ k = 4 ∨ k = 5 ∨ k = 6 ∨ k = 7) with rfl | rfl | rfl | rfl | rfl | rfl | rfl | rfl
      all_goals
        go_wp2_with (at_builtin; refine wpList_append_own _ rfl _ _ 54 rfl B 5 i0 (.int .u8 0) 1 1 Tryz.underlying54 hi hz0 hz1 hz2 rfl (by decide) _ ys.length (bcl ys) rfl (BR.alloc HR.out _) ⟨wr.heap.size, 0, none⟩ 1 1 [.int .u8 _] rfl rfl (cell_one_new _ _ _) (ints_oneCell .u8 [_]) (by unfold maxLen; omega) (by omega) (by simp; omega) ?_)
        intro v' w2 hown' hgrow _
        have R := BR.step hs HR.out (HF.out.mono (Nat.le_refl _)) hown' hgrow
        have HB2 : Hid (Below B w w2) := R.2
        have HR2 : Hid (BR B w2 v' (xs ++ le8 z (K + 1))) := by
          have R1 := R.1
          show BR B w2 v' (xs ++ le8 z (K + 1))
          rw [HL.out]
          subst hK
          simp only [Int.reducePow]
          first
            | exact R1
            | (rw [Int.ediv_one]; exact R1)
            | (rw [Int.emod_eq_of_lt (by omega) (by omega)]; exact R1)
        clear R HR HF HL hown' hgrow
        subst hK
        go_wp2
        go_roundw
        case rel => exact ⟨_, _, (by omega : _ + 1 ≤ 8), rfl, by go_num, HR2.out, HB2.out⟩
        case measure => simp [intOf]
    · have hge : (8 : Int) ≤ (k : Int) := by omega
      obtain rfl : k = 8 := by omega
      go_wp2
      go_ret
      exact ⟨_, rfl, hR, hF⟩
end Go.Proofs.YtmckcnmlhgpnhaaGreat
