/- Plain of both packages: the acts that run, in order. -/
import Derived.Test.YtohfkcanljngoaaKPnA
import Derived.Maps.AppendAt
import Derived.OwnWalk
import Derived.WalkSmall
namespace Go.Proofs.Ytohfkcanljngoaa
set_option maxRecDepth 20000
open Go.RowKit Go.Maps
set_option linter.unusedSimpArgs false
set_option linter.unusedVariables false

/-- The acts among the first k that run. -/
def plT (y : Nat → Int) : Nat → List (Int × Int)
  | 0 => []
  | k + 1 => if y (2 * k) = 1 then plT y k ++ [(1, y (2 * k + 1))] else plT y k
theorem plT_yes {y : Nat → Int} {k : Nat} (h : y (2 * k) = 1) : plT y (k + 1) = plT y k ++ [(1, y (2 * k + 1))] := by rw [plT, if_pos h]
theorem plT_no {y : Nat → Int} {k : Nat} (h : y (2 * k) ≠ 1) : plT y (k + 1) = plT y k := by rw [plT, if_neg h]
theorem plT_len (y : Nat → Int) : ∀ k, (plT y k).length ≤ k
  | 0 => Nat.le_refl _
  | k + 1 => by
    have := plT_len y k
    by_cases h : y (2 * k) = 1
    · rw [plT_yes h, List.length_append]
      simp only [List.length_cons, List.length_nil]
      omega
    · rw [plT_no h]
      omega
/-- Their cells. -/
def acl (X : List (Int × Int)) : List Value := X.flatMap fun p => [.int .i64 p.1, .int .i64 p.2]
theorem acl_snoc (X : List (Int × Int)) (a b : Int) : acl (X ++ [(a, b)]) = acl X ++ [.int .i64 a, .int .i64 b] := by simp [acl]
/-- The number in cell i. -/
def acv : List (Int × Int) → Nat → Int
  | [], _ => 0
  | p :: X, 0 => p.1
  | p :: X, 1 => p.2
  | p :: X, i + 2 => acv X i
theorem acl_at : ∀ (X : List (Int × Int)) (i : Nat), i < X.length * 2 → (acl X)[i]? = some (.int .i64 (acv X i))
  | [], i, h => by simp at h
  | p :: X, 0, h => rfl
  | p :: X, 1, h => rfl
  | p :: X, i + 2, h => by
    have e : acl (p :: X) = .int .i64 p.1 :: .int .i64 p.2 :: acl X := rfl
    rw [e, List.getElem?_cons_succ, List.getElem?_cons_succ, acl_at X i (by simp only [List.length_cons] at h; omega)]
    rfl
theorem acts_own {B : Nat} {w : World} {v : Value} {X : List (Int × Int)} (h : w.ownsRow B 31 2 v X.length (acl X)) : OwnF B w.heap.size 31 w v X.length (2 * X.length) (fun i => .int .i64 (acv X i)) := by
  obtain ⟨h1, h2 | ⟨b, cap, cur, hv, hB, hg, hle, _, hcs, htk⟩⟩ := h
  · exact ⟨none, 0, by rw [h2.1, h2.2], .inl (by omega)⟩
  · have hb : b < w.heap.size := (Array.getElem?_eq_some_iff.1 hg).1
    have hm : X.length * 2 ≤ cap * 2 := Nat.mul_le_mul_right _ hle
    refine ⟨some ⟨b, 0, none⟩, cap, hv, .inr ⟨b, cap * 2, fun i => cur.getD i (.bool false), rfl, hB, hb, by omega, ⟨cur, hg, by omega, fun i hi => by simp [Array.getD, show i < cur.size by omega]⟩, fun i hi => ?_⟩⟩
    have h3 : (cur.toList.take (X.length * 2))[i]? = (acl X)[i]? := by rw [htk]
    rw [List.getElem?_take, acl_at X i (by omega), if_pos (by omega)] at h3
    simp [Array.getD, show i < cur.size by omega]
    have h2 := h3
    rw [Array.getElem?_toList, Array.getElem?_eq_getElem (by omega)] at h2
    simpa using h2
theorem acts_grow {B : Nat} {w : World} {v : Value} {X : List (Int × Int)} {a b : Int} (h : w.ownsRow B 31 2 v (X.length + 1) (acl X ++ [.int .i64 a, .int .i64 b])) : w.ownsRow B 31 2 v (X ++ [(a, b)]).length (acl (X ++ [(a, b)])) := by
  rw [acl_snoc, List.length_append]
  exact h
/-- What both loops keep. -/
def PlR (w wr : World) (y : Nat → Int) (k : Nat) (v : Value) : Prop := wr.ownsRow w.heap.size 31 2 v (plT y k).length (acl (plT y k)) ∧ Below w.heap.size w wr
theorem plR_grow {w wr w2 : World} {y : Nat → Int} {k : Nat} {v v' : Value} (h : PlR w wr y k v) (hy : y (2 * k) = 1) (hown : w2.ownsRow w.heap.size 31 2 v' ((plT y k).length + 1) (acl (plT y k) ++ [.int .i64 1, .int .i64 (y (2 * k + 1))])) (hB : Below w.heap.size w w2) : PlR w w2 y (k + 1) v' := by
  refine ⟨?_, hB⟩
  rw [plT_yes hy]
  exact acts_grow hown
theorem plR_stay {w wr w2 : World} {y : Nat → Int} {k : Nat} {v : Value} (h : PlR w wr y k v) (hy : y (2 * k) ≠ 1) (hb : Below wr.heap.size wr w2) : PlR w w2 y (k + 1) v := by
  have hl := h.2.size
  refine ⟨?_, h.2.trans (hb.mono hl)⟩
  rw [plT_no hy]
  exact World.ownsRow.kept h.1 (row := none) ⟨hb.os, hb.tape, hb.output, hb.size, fun k hk _ => hb.block k hk⟩ (by cases v.ownBlock <;> simp)

theorem specPlain_at (a : Option Addr) (n cap : Nat) (y : Nat → Int) (T : Nat) (w : World) (hs : SlF T w (.slice a n cap) n (2 * n) (fun i => .int .i64 (y i))) (hn : n ≤ 1048576) :
    Calls Try.prog 5 #[.slice a n cap] w fun e w' => ∃ v', e = .returned v' ∧ OwnF w.heap.size w'.heap.size 31 w' v' (plT y n).length (2 * (plT y n).length) (fun i => .int .i64 (acv (plT y n) i)) ∧ Below w.heap.size w w' := by
  obtain ⟨i0, hi, hz0, hz1, hz2⟩ := info_parts infoAct
  have hn' : (n : Int) ≤ 1048576 := by omega
  have HS : Hid (SlF w.heap.size w (.slice a n cap) n (2 * n) (fun i => .int .i64 (y i))) := hs.here
  clear hs
  have h0 : PlR w (w.alloc (.cells #[] 31)) y 0 (.slice (some ⟨w.heap.size, 0, none⟩) 0 0) :=
    ⟨⟨rfl, .inr ⟨w.heap.size, 0, #[], rfl, Nat.le_refl _, Go.Deep.blk_alloc_new _ _, Nat.le_refl _, by simp [maxLen, plT], rfl, rfl⟩⟩, (Below.refl _ _).alloc (Nat.le_refl _) _⟩
  go_enter Try.func5, Try.ntmps5
  go_wp2
  go_loopw [3, 4] (fun v u wr => ∃ (k : Nat) (u1 : Value), k ≤ n ∧ u1 = v ∧ u = .int .i64 k ∧ PlR w wr y k u1) (fun _ u _ => n - (intOf u).toNat)
  case atStart => exact ⟨0, _, Nat.zero_le _, rfl, rfl, h0⟩
  case round =>
    clear h0
    obtain ⟨k, v, hk, rfl, rfl, hR⟩ := hrel
    have hlen := plT_len y k
    by_cases hlt : k < n
    · have hlt' : (k : Int) < (n : Int) := by omega
      obtain ⟨br, offr, cap', hv, _, lbr, hcr⟩ := HS.out.parts (k := 0) (by omega)
      simp only [Value.slice.injEq] at hv
      obtain ⟨rfl, _, rfl⟩ := hv
      have hc1 : wr.cell? ⟨br, offr + k * 2, none⟩ = some (.int .i64 (y (2 * k))) := by rw [hR.2.cell (p := ⟨br, offr + k * 2, none⟩) lbr, Nat.mul_comm]; exact hcr (2 * k) (by omega)
      have hd1 : wr.cell? ⟨br, offr + k * 2 + 1, none⟩ = some (.int .i64 (y (2 * k + 1))) := by rw [hR.2.cell (p := ⟨br, offr + k * 2 + 1, none⟩) lbr, Nat.mul_comm]; exact hcr (2 * k + 1) (by omega)
      have HR : Hid (PlR w wr y k v) := hR
      clear hcr HS hR
      by_cases hy : y (2 * k) = 1
      · rw [hy] at hc1
        go_wp2_with (at_builtin; refine wpList_append_own _ rfl _ _ 24 rfl w.heap.size 31 i0 (.agg #[.int .i64 0, .int .i64 0]) 2 16 Try.underlying24 hi hz0 hz1 hz2 rfl (by decide) _ (plT y k).length (acl (plT y k)) rfl ?hown ⟨wr.heap.size, 0, none⟩ 1 1 [.int .i64 1, .int .i64 (y (2 * k + 1))] rfl rfl (cell_two_new _ _ _ _) (ints_oneCell .i64 [1, y (2 * k + 1)]) (by unfold maxLen; omega) (by omega) ?hbase ?_)
        case hown => exact World.ownsRow.alloc HR.out.1 _
        case hbase => have := HR.out.2.size; simp; omega
        intro v' w2 hown' hgrow _
        have HR2 : Hid (PlR w w2 y (k + 1) v') := plR_grow HR.out hy hown' (Below.grown (HR.out.2.alloc HR.out.2.size _) hgrow (by have := HR.out.2.size; simp; omega) (fun j hj => (World.ownsRow.lt HR.out.1 j hj).1))
        clear hown' hgrow HR
        go_wp2
        go_roundw
        case rel => exact ⟨k + 1, _, by omega, rfl, by go_num, HR2.out⟩
        case measure => simp [intOf]; omega
      · have hyb : (y (2 * k) == 1) = false := by simpa using hy
        have HR2 : Hid (PlR w wr y (k + 1) v) := plR_stay HR.out hy (Below.refl _ _)
        have HY : Hid (y (2 * k) ≠ 1) := hy
        clear hy HR
        go_wp2
        go_roundw
        case rel => exact ⟨k + 1, _, by omega, rfl, by go_num, HR2.out⟩
        case measure => simp [intOf]; omega
    · have hge : (n : Int) ≤ (k : Int) := by omega
      obtain rfl : k = n := by omega
      have HR : Hid (PlR w wr y k v) := hR
      clear hR
      go_wp2
      go_ret
      exact ⟨_, rfl, acts_own HR.out.1, HR.out.2⟩

theorem implPlain_at (a : Option Addr) (n cap : Nat) (y : Nat → Int) (T : Nat) (w : World) (hs : SlF T w (.slice a n cap) n (2 * n) (fun i => .int .i64 (y i))) (hn : n ≤ 1048576) :
    Calls Try.prog 7 #[.slice a n cap] w fun e w' => ∃ v', e = .returned v' ∧ OwnF w.heap.size w'.heap.size 31 w' v' (plT y n).length (2 * (plT y n).length) (fun i => .int .i64 (acv (plT y n) i)) ∧ Below w.heap.size w w' := by
  obtain ⟨i0, hi, hz0, hz1, hz2⟩ := info_parts infoAct
  have hn' : (n : Int) ≤ 1048576 := by omega
  have HS : Hid (SlF w.heap.size w (.slice a n cap) n (2 * n) (fun i => .int .i64 (y i))) := hs.here
  clear hs
  have h0 : PlR w w y 0 (.slice none 0 0) := ⟨World.ownsRow_nil w _ _ 2, Below.refl _ _⟩
  go_enter Try.func7, Try.ntmps7
  go_wp2
  go_loopw [3, 8] (fun v u wr => ∃ (k : Nat) (u1 : Value), k ≤ n ∧ u1 = v ∧ u = .int .i64 k ∧ PlR w wr y k u1) (fun _ u _ => n - (intOf u).toNat)
  case atStart => exact ⟨0, _, Nat.zero_le _, rfl, rfl, h0⟩
  case round =>
    clear h0
    obtain ⟨k, v, hk, rfl, rfl, hR⟩ := hrel
    have hlen := plT_len y k
    by_cases hlt : k < n
    · have hlt' : (k : Int) < (n : Int) := by omega
      obtain ⟨br, offr, cap', hv, _, lbr, hcr⟩ := HS.out.parts (k := 0) (by omega)
      simp only [Value.slice.injEq] at hv
      obtain ⟨rfl, _, rfl⟩ := hv
      have hc1 : wr.cell? ⟨br, offr + k * 2, none⟩ = some (.int .i64 (y (2 * k))) := by rw [hR.2.cell (p := ⟨br, offr + k * 2, none⟩) lbr, Nat.mul_comm]; exact hcr (2 * k) (by omega)
      have hd1 : wr.cell? ⟨br, offr + k * 2 + 1, none⟩ = some (.int .i64 (y (2 * k + 1))) := by rw [hR.2.cell (p := ⟨br, offr + k * 2 + 1, none⟩) lbr, Nat.mul_comm]; exact hcr (2 * k + 1) (by omega)
      have HR : Hid (PlR w wr y k v) := hR
      clear hcr HS hR
      by_cases hy : y (2 * k) = 1
      · rw [hy] at hc1
        go_wp2_with (at_builtin; refine wpList_append_own _ rfl _ _ 24 rfl w.heap.size 31 i0 (.agg #[.int .i64 0, .int .i64 0]) 2 16 Try.underlying24 hi hz0 hz1 hz2 rfl (by decide) _ (plT y k).length (acl (plT y k)) rfl ?hown ⟨wr.heap.size + 1, 0, none⟩ 1 1 [.int .i64 1, .int .i64 (y (2 * k + 1))] rfl rfl (by simpa using cell_two_new (wr.alloc (.cells #[.int .i64 1, .int .i64 (y (2 * k + 1))] 31)) (.int .i64 1) (.int .i64 (y (2 * k + 1))) 31) (ints_oneCell .i64 [1, y (2 * k + 1)]) (by unfold maxLen; omega) (by omega) ?hbase ?_)
        case hown => exact World.ownsRow.alloc (World.ownsRow.alloc HR.out.1 _) _
        case hbase => have := HR.out.2.size; simp; omega
        intro v' w2 hown' hgrow _
        have HR2 : Hid (PlR w w2 y (k + 1) v') := plR_grow HR.out hy hown' (Below.grown ((HR.out.2.alloc HR.out.2.size _).alloc (by have := HR.out.2.size; simp; omega) _) hgrow (by have := HR.out.2.size; simp; omega) (fun j hj => (World.ownsRow.lt HR.out.1 j hj).1))
        clear hown' hgrow HR
        go_wp2
        go_roundw
        case rel => exact ⟨k + 1, _, by omega, rfl, by go_num, HR2.out⟩
        case measure => simp [intOf]; omega
      · have hyb : (y (2 * k) == 1) = false := by simpa using hy
        have HR2 : Hid (PlR w (wr.alloc (.cells #[.int .i64 (y (2 * k)), .int .i64 (y (2 * k + 1))] 31)) y (k + 1) v) := plR_stay HR.out hy ((Below.refl _ _).alloc (Nat.le_refl _) _)
        have HY : Hid (y (2 * k) ≠ 1) := hy
        clear hy HR
        go_wp2
        go_roundw
        case rel => exact ⟨k + 1, _, by omega, rfl, by go_num, HR2.out⟩
        case measure => simp [intOf]; omega
    · have hge : (n : Int) ≤ (k : Int) := by omega
      obtain rfl : k = n := by omega
      have HR : Hid (PlR w wr y k v) := hR
      clear hR
      go_wp2
      go_ret
      exact ⟨_, rfl, acts_own HR.out.1, HR.out.2⟩
end Go.Proofs.Ytohfkcanljngoaa
