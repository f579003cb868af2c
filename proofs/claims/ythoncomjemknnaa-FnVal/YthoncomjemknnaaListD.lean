/- A drawn list of words, and the draw of FnVal. -/
import Derived.Test.YthoncomjemknnaaProg
import Derived.Test.YthoncomjemknnaaValD
import Derived.WalkKit
import Derived.WalkSpells
import Derived.WalkLawsBesides
import Derived.Below
import Derived.Outline
import Derived.Deep.Light
namespace Go.Proofs.Ythoncomjemknnaa
set_option maxRecDepth 20000
open Go.RowKit
set_option linter.unusedSimpArgs false
set_option linter.unusedVariables false

theorem owns_but {w w' : World} {b B : Nat} {v : Value} {n : Nat} {xs : List Value} (h : w.ownsRow B 31 1 v n xs) (hb : But b w w') (hB : b < B) : w'.ownsRow B 31 1 v n xs := by
  obtain ⟨hl, ⟨rfl, h0⟩ | ⟨g, cap, cur, rfl, hg, hh, r⟩⟩ := h
  · exact ⟨hl, .inl ⟨rfl, h0⟩⟩
  · refine ⟨hl, .inr ⟨g, cap, cur, rfl, hg, ?_, r⟩⟩
    have hlt : g < w.heap.size := by
      rcases Nat.lt_or_ge g w.heap.size with h | h
      · exact h
      · rw [Array.getElem?_eq_none h] at hh
        simp at hh
    rw [hb.block g hlt (by omega)]
    exact hh
theorem own_but {w w' : World} {b B : Nat} {v : Value} {zs : List Int} (h : Own B w v zs) (hb : But b w w') (hB : b < B) : Own B w' v zs :=
  h.block fun k hk hl => hb.block k hl (by omega)
theorem but_grown {b : Nat} {a w w' : World} {row : Option Nat} (h : But b a w) (hg : w.grownBy w' row) (hr : ∀ k, row = some k → a.heap.size ≤ k) : But b a w' :=
  ⟨hg.os.trans h.os, hg.tape.trans h.tape, hg.output.trans h.output, Nat.le_trans h.size hg.size, fun k hk hb => (hg.block k (Nat.lt_of_lt_of_le hk h.size) (fun e => by have := hr k e.symm; omega)).trans (h.block k hk hb)⟩
theorem cur_grown {b : Nat} {w w' : World} {row : Option Nat} {v : Value} (h : Cur w b v) (hg : w.grownBy w' row) (hr : ∀ k, row = some k → b < k) : Cur w' b v :=
  h.keep fun k hk => hg.block k (Nat.lt_of_le_of_lt hk h.lt) (fun e => by have := hr k e.symm; omega)
theorem wrapU_in (x : Int) : 0 ≤ IntKind.u64.wrap x ∧ IntKind.u64.wrap x < 18446744073709551616 := by
  have := bounds_u64 (wf_wrap .u64 x)
  omega
theorem owns_block {w : World} {B : Nat} {v : Value} {n : Nat} {xs : List Value} (h : w.ownsRow B 31 1 v n xs) : ∀ k, v.ownBlock = some k → B ≤ k := by
  obtain ⟨hl, ⟨rfl, h0⟩ | ⟨g, cap, cur, rfl, hg, hh, r⟩⟩ := h
  · intro k hk; simp [Value.ownBlock] at hk
  · intro k hk; simp [Value.ownBlock] at hk; omega

/-- What the drawing loop keeps. -/
def LRel (w wr : World) (b : Nat) (v out : Value) (k : Nat) : Prop :=
  ∃ xs : List Int, xs.length = k ∧ Words64 xs ∧ wr.ownsRow w.heap.size 31 1 out k (cellsOf xs) ∧ Cur wr b v ∧ But b w wr

set_option maxHeartbeats 1000000 in
theorem l1List_any (b : Nat) (v : Value) (w : World) (hcur : Cur w b v) :
    Calls Try.prog 17 #[.pointer (some ⟨b, 0, none⟩)] w fun e w' => ∃ out xs, e = .returned out ∧ xs.length ≤ 8 ∧ Words64 xs ∧ Own w.heap.size w' out xs ∧ Cur w' b v ∧ But b w w' := by
  have hbw := hcur.lt
  obtain ⟨i0, hi, hz0, hz1, hz2⟩ := info_parts info27
  go_enter Try.func17, Try.ntmps17
  go_wp2_with fail
  refine (l1Below_any b v 9 _ (hcur.below ((Below.refl _ _).alloc (Nat.le_refl _) _)) (by omega) (by omega)).mono ?_
  rintro e w1 ⟨m, rfl, ⟨hm0, hm1⟩, C1, B1⟩
  obtain ⟨m, rfl⟩ := Int.eq_ofNat_of_zero_le hm0
  have hst : LRel w w1 b v (.slice (some ⟨w.heap.size, 0, none⟩) 0 0) 0 :=
    ⟨[], rfl, fun z hz => by simp at hz, owns_but ⟨rfl, .inr ⟨w.heap.size, 0, #[], rfl, Nat.le_refl _, Go.Deep.blk_alloc_new _ _, Nat.le_refl _, by simp [maxLen], rfl, rfl⟩⟩ B1 hbw, C1, ((But.refl b w).alloc _).trans B1⟩
  go_wp2
  go_loopw [3, 5] (fun out i wr => ∃ k : Nat, k ≤ m ∧ i = .int .i64 k ∧ LRel w wr b v out k) (fun _ i _ => m - (intOf i).toNat)
  case atStart => exact ⟨0, Nat.zero_le _, rfl, hst⟩
  case round =>
    obtain ⟨k, hk, rfl, xs, hxl, hxw, hown, Cr, Br⟩ := hrel
    by_cases hlt : k < m
    · have hlt' : (k : Int) < (m : Int) := by omega
      go_wp2_with fail
      refine (cur_pick Cr (But.refl b wr) [0, 1, 2, 3, 7, 9, -1, 77] 3 _ _ _ (by simp) rfl rfl (by decide) (by decide)).mono ?_
      rintro e w2 ⟨y, rfl, C2, B2⟩
      have hown2 := owns_but hown B2 hbw
      go_wp2_with (at_builtin; refine wpList_append_own _ rfl _ _ 24 rfl w.heap.size 31 i0 (.int .u64 0) 1 8 Try.underlying24 hi hz0 hz1 hz2 rfl (by decide) u3 k (cellsOf xs) rfl ?hown ⟨w2.heap.size, 0, none⟩ 1 1 [.int .u64 (IntKind.u64.wrap y)] rfl rfl ?hnews ?hone ?h63 ?hby ?hbase ?_)
      case hown => exact hown2.alloc _
      case hnews => exact cell_one_new _ _ _
      case hone => intro u hu; simp at hu; subst hu; rfl
      case h63 => unfold maxLen; omega
      case hby => omega
      case hbase => have := (Br.trans B2).size; simp; omega
      intro v' w3 hown' hgrow _
      have R : LRel w w3 b v v' (k + 1) := ⟨xs ++ [IntKind.u64.wrap y], by simp [hxl], fun z hz => by
          rcases List.mem_append.1 hz with h | h
          · exact hxw z h
          · simp at h; subst h; exact wrapU_in y, by simpa [cellsOf] using hown', cur_grown (C2.below ((Below.refl _ _).alloc (Nat.le_refl _) _)) hgrow (fun j hj => Nat.lt_of_lt_of_le hbw (owns_block hown2 j hj)), but_grown ((Br.trans B2).alloc _) hgrow (owns_block hown2)⟩
      clear hown' hgrow hown hown2 Br B2 C2 Cr
      go_wp2
      go_roundw
      case rel => exact ⟨k + 1, by omega, by go_num, R⟩
      case measure => simp [intOf]; omega
    · have hlt' : ¬ (k : Int) < (m : Int) := by omega
      subst hxl
      go_wp2
      go_ret
      exact ⟨_, rfl, xs, by omega, hxw, own_of_owns hown, Cr, Br⟩

theorem drawPutVal_any (a : Option Addr) (n cap : Nat) (w : World) (hn : n ≤ 1048576) (hc : Bytes w a n) :
    Calls Try.prog 6 #[.slice a n cap] w fun e w' => ∃ out xs i t m, e = .returned (.tuple #[out, .int .i64 i, .agg #[.int .i64 t, .int .i64 m]]) ∧ List.length xs ≤ 8 ∧ Words64 xs ∧ Sl w' out xs ∧ in64 t = true ∧ in64 m = true ∧ (-2 ≤ i ∧ i ≤ 11) ∧ Below w.heap.size w w' := by
  have hsz : (w.alloc (.cells #[.int .i64 0, .int .i64 0] 26)).heap.size = w.heap.size + 1 := by simp
  go_enter Try.func6, Try.ntmps6
  go_wp2_with fail
  refine (l1New_any a n cap _ hn (hc.below ((Below.refl _ _).alloc (Nat.le_refl _) _))).mono ?_
  rintro e w1 ⟨rfl, C1, b1⟩
  have l1 := C1.lt
  rw [hsz] at C1
  go_wp2_with fail
  refine (l1List_any (w.heap.size + 1) (.slice a n cap) _ C1).mono ?_
  rintro e w2 ⟨out, xs, rfl, hx8, hxw, o2, C2, B2⟩
  obtain ⟨ao, co, hout⟩ := o2.sl.head
  rw [hout] at o2 ⊢
  have hx8' : (xs.length : Int) ≤ 8 := by omega
  go_wp2_with fail
  refine (l1Below_any (w.heap.size + 1) (.slice a n cap) _ _ C2 (by omega) (by omega)).mono ?_
  rintro e w3 ⟨i, rfl, ⟨hi0, hi1⟩, C3, B3⟩
  have o3 := own_but o2 B3 (by rw [hsz] at l1; exact l1)
  go_wp2_with fail
  refine (l1Val_any (w.heap.size + 1) (.slice a n cap) _ C3).mono ?_
  rintro e w4 ⟨t, m, rfl, ht, hm, C4, B4⟩
  have o4 := own_but o3 B4 (by rw [hsz] at l1; exact l1)
  have BB : But (w.heap.size + 1) w1 w4 := (B2.trans B3).trans B4
  have hB4 : Below (w.alloc (.cells #[.int .i64 0, .int .i64 0] 26)).heap.size (w.alloc (.cells #[.int .i64 0, .int .i64 0] 26)) w4 := b1.trans (BB.below (by rw [hsz]; exact Nat.le_refl _) b1.size)
  obtain ⟨c4, f4⟩ := bcell hB4
  go_wp2
  have p0 : (w4.cell? ⟨w.heap.size, 0, none⟩).isSome = true := by rw [c4 _ _ (by simp)]; simp [go_sem]
  have p1 : (w4.cell? ⟨w.heap.size, 1, none⟩).isSome = true := by rw [c4 _ _ (by simp)]; simp [go_sem]
  refine bodyPost_ret (v := .tuple #[.slice ao xs.length co, .int .i64 (i - 2), .agg #[.int .i64 t, .int .i64 m]]) (by simp [results, Try.results6, go_sem, p0, p1]) rfl ⟨_, xs, i - 2, t, m, rfl, hx8, hxw, ?_, ht, hm, by omega, ((below_first hB4).setCell (by simp) _).setCell (by simp) _⟩
  refine (o4.block fun k hk hl => ?_).sl
  rw [hsz] at l1
  rw [Go.Deep.blk_setCell_other _ _ _ _ (show k ≠ w.heap.size by omega), Go.Deep.blk_setCell_other _ _ _ _ (show k ≠ w.heap.size by omega)]
end Go.Proofs.Ythoncomjemknnaa
