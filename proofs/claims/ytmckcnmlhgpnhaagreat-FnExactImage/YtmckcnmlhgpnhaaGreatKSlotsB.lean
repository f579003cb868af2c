/- The laws' own helpers over []int: eqIntS of two alike, markIntS, heldIntS. -/
import Derived.Test.YtmckcnmlhgpnhaaGreatProg
import Derived.Test.YtmckcnmlhgpnhaaGreatKRowF
import Derived.WalkKit
import Derived.WalkSpells
import Derived.WalkLawsBesides
import Derived.Below
import Derived.Outline
import Derived.Deep.Light
import Derived.Deep.OwnRows
import Derived.Deep.QuietTactic
import Derived.BigQuiet
import Derived.Deep.CutRange
import Derived.Deep.CutBlock
import Derived.Maps.AppendAt
namespace Go.Proofs.YtmckcnmlhgpnhaaGreat
set_option maxRecDepth 20000
open Go.RowKit
set_option linter.unusedSimpArgs false
set_option linter.unusedVariables false

theorem eqIntS_same (T1 T2 : Nat) (v1 v2 : Value) (n : Nat) (z : Nat → Int) (w : World) (h1 : SlF T1 w v1 n n (fun i => .int .i64 (z i))) (h2 : SlF T2 w v2 n n (fun i => .int .i64 (z i))) (hn : n ≤ 1048576) :
    Calls Tryz.prog 32 #[v1, v2] w fun e w' => e = .returned (.bool true) ∧ Below w.heap.size w w' := by
  obtain ⟨a1, c1, rfl, h1⟩ := h1
  obtain ⟨a2, c2, rfl, h2⟩ := h2
  have hn' : (n : Int) ≤ 1048576 := by omega
  go_enter Tryz.func32, Tryz.ntmps32
  go_wp2
  go_loopw [5] (fun i wr => ∃ k : Nat, k ≤ n ∧ i = .int .i64 k ∧ Below w.heap.size w wr) (fun i _ => n - (intOf i).toNat)
  case atStart => exact ⟨0, Nat.zero_le _, rfl, Below.refl _ _⟩
  case round =>
    obtain ⟨k, hk, rfl, hF⟩ := hrel
    by_cases hlt : k < n
    · rcases h1 with rfl | ⟨b1, o1, rfl, _, l1, g1⟩
      · simp at hlt
      rcases h2 with rfl | ⟨b2, o2, rfl, _, l2, g2⟩
      · simp at hlt
      have hc1 : wr.cell? ⟨b1, o1 + k, none⟩ = some (.int .i64 (z k)) := by rw [hF.cell (p := ⟨b1, o1 + k, none⟩) l1]; exact g1 k hlt
      have hc2 : wr.cell? ⟨b2, o2 + k, none⟩ = some (.int .i64 (z k)) := by rw [hF.cell (p := ⟨b2, o2 + k, none⟩) l2]; exact g2 k hlt
      have hlt' : (k : Int) < (n : Int) := by omega
      clear g1 g2
      go_wp2
      go_quiet (fail)
      go_wp2
      go_roundw
      case rel => exact ⟨k + 1, by omega, by go_num, below_drewN hF _⟩
      case measure => simp [intOf]; omega
    · go_wp2
      go_ret
      exact ⟨rfl, hF⟩

theorem markIntS_any (B T : Nat) (v : Value) (n : Nat) (z : Nat → Int) (k0 : Int) (w : World) (h : OwnF B T 3 w v n n (fun i => .int .i64 (z i))) (hn : n ≤ 1048576) (hk0 : 0 ≤ k0) (hk1 : k0 ≤ 4194304) :
    Calls Tryz.prog 33 #[v, .int .i64 k0] w fun e w' => e = .returned (.int .i64 (k0 + n)) ∧ OwnF B T 3 w' v n n (fun i => .int .i64 (k0 + i)) ∧ Outside B T w w' := by
  obtain ⟨a, cap, rfl, h⟩ := h
  have hn' : (n : Int) ≤ 1048576 := by omega
  have hst := markRelF_start (w := w) (u := fun i => .int .i64 (k0 + i)) h
  clear h
  go_enter Tryz.func33, Tryz.ntmps33
  go_wp2
  go_loopw [1, 5] (fun q i wr => ∃ k : Nat, k ≤ n ∧ i = .int .i64 k ∧ q = .int .i64 (k0 + k) ∧ MarkRelF B T 3 w wr a n (fun i => .int .i64 (z i)) (fun i => .int .i64 (k0 + i)) k) (fun _ i _ => n - (intOf i).toNat)
  case atStart => exact ⟨0, Nat.zero_le _, rfl, by simp, hst⟩
  case round =>
    obtain ⟨k, hk, rfl, rfl, hR⟩ := hrel
    by_cases hlt : k < n
    · have hR' := hR.2
      rcases hR' with h0 | ⟨b, M, g, rfl, hB, hT, hm, hF, hf⟩
      · omega
      have hc1 : wr.cell? ⟨b, k, none⟩ = some (if k < k then .int .i64 (k0 + k) else g k) := hF.2.cell (by omega)
      rw [if_neg (Nat.lt_irrefl k), hf k hlt] at hc1
      have hf1 := hF.2.frozen k
      have hst := markedF_step hF hB hT
      have hlt' : (k : Int) < (n : Int) := by omega
      go_wp2
      go_roundw
      case rel => exact ⟨k + 1, by omega, by go_num, by go_num, hst.1, .inr ⟨b, M, g, rfl, hB, hT, hm, hst, hf⟩⟩
      case measure => simp [intOf]; omega
    · have hkk : k = n := by omega
      go_wp2
      go_ret
      exact ⟨ret_int (by omega), markRelF_end hR (by omega), hR.1⟩

theorem heldIntS_any (T : Nat) (v : Value) (n : Nat) (k0 : Int) (w : World) (h : SlF T w v n n (fun i => .int .i64 (k0 + i))) (hn : n ≤ 1048576) (hk0 : 0 ≤ k0) (hk1 : k0 ≤ 4194304) :
    Calls Tryz.prog 34 #[v, .int .i64 k0] w fun e w' => e = .returned (.int .i64 (k0 + n)) ∧ Below w.heap.size w w' := by
  obtain ⟨a, cap, rfl, h⟩ := h
  have hn' : (n : Int) ≤ 1048576 := by omega
  go_enter Tryz.func34, Tryz.ntmps34
  go_wp2
  go_loopw [1, 5] (fun q i wr => ∃ k : Nat, k ≤ n ∧ i = .int .i64 k ∧ q = .int .i64 (k0 + k) ∧ Below w.heap.size w wr) (fun _ i _ => n - (intOf i).toNat)
  case atStart => exact ⟨0, Nat.zero_le _, rfl, by simp, Below.refl _ _⟩
  case round =>
    obtain ⟨k, hk, rfl, rfl, hF⟩ := hrel
    by_cases hlt : k < n
    · rcases h with h | ⟨b, off, rfl, _, hl, hc⟩
      · omega
      have hc1 : wr.cell? ⟨b, off + k, none⟩ = some (.int .i64 (k0 + k)) := by
        rw [hF.cell (p := ⟨b, off + k, none⟩) hl, hc k hlt]
      clear hc
      have hlt' : (k : Int) < (n : Int) := by omega
      go_wp2
      go_roundw
      case rel => exact ⟨k + 1, by omega, by go_num, by go_num, hF⟩
      case measure => simp [intOf]; omega
    · have hkk : k = n := by omega
      go_wp2
      go_ret
      exact ⟨ret_int (by omega), hF⟩
end Go.Proofs.YtmckcnmlhgpnhaaGreat

/- Slots of both packages. -/
namespace Go.Proofs.YtmckcnmlhgpnhaaGreat
set_option maxRecDepth 20000
open Go.RowKit Go.Maps
set_option linter.unusedSimpArgs false
set_option linter.unusedVariables false

def bodyT (k : Int) : TypeId := if k = 1 then 220 else if k = 2 then 221 else if k = 3 then 222 else if k = 4 then 223 else if k = 5 then 224 else 225

theorem bodyOf_any (k : Int) (v : Value) (w : World) :
    Calls Tryz.prog 160 #[.int .i64 k, v] w fun e w' => e = .returned (.iface (bodyT k) v) ∧ w' = w := by
  go_enter Tryz.func160, Tryz.ntmps160
  go_wp2
  all_goals
    go_ret
    refine ⟨?_, rfl⟩
    go_light
    simp [bodyT]
    simp at *
    simp [*]

/-- The first slot of a kind, as the program counts. -/
def fs (k : Int) : Int := if k = 1 then 65536 else if k = 2 ∨ k = 4 then 2 else if k = 3 ∨ k = 5 then 1 else 5

theorem firstSlot1 (v : Value) (w : World) : Calls Tryz.prog 242 #[v] w fun e w' => e = .returned (.int .i64 65536) ∧ w' = w := by
  go_enter Tryz.func242, Tryz.ntmps242
  go_wp2
  go_ret
  exact ⟨rfl, rfl⟩
theorem methFirst1 (v : Value) (w : World) : Sem.run Tryz.prog (method 372 220 v "loop.example/g00101/impl.firstSlot") w = .ok (242, v) w := by kernel_rfl
theorem firstSlot2 (v : Value) (w : World) : Calls Tryz.prog 245 #[v] w fun e w' => e = .returned (.int .i64 2) ∧ w' = w := by
  go_enter Tryz.func245, Tryz.ntmps245
  go_wp2
  go_ret
  exact ⟨rfl, rfl⟩
theorem methFirst2 (v : Value) (w : World) : Sem.run Tryz.prog (method 372 221 v "loop.example/g00101/impl.firstSlot") w = .ok (245, v) w := by kernel_rfl
theorem firstSlot3 (v : Value) (w : World) : Calls Tryz.prog 248 #[v] w fun e w' => e = .returned (.int .i64 1) ∧ w' = w := by
  go_enter Tryz.func248, Tryz.ntmps248
  go_wp2
  go_ret
  exact ⟨rfl, rfl⟩
theorem methFirst3 (v : Value) (w : World) : Sem.run Tryz.prog (method 372 222 v "loop.example/g00101/impl.firstSlot") w = .ok (248, v) w := by kernel_rfl
theorem firstSlot4 (v : Value) (w : World) : Calls Tryz.prog 251 #[v] w fun e w' => e = .returned (.int .i64 2) ∧ w' = w := by
  go_enter Tryz.func251, Tryz.ntmps251
  go_wp2
  go_ret
  exact ⟨rfl, rfl⟩
theorem methFirst4 (v : Value) (w : World) : Sem.run Tryz.prog (method 372 223 v "loop.example/g00101/impl.firstSlot") w = .ok (251, v) w := by kernel_rfl
theorem firstSlot5 (v : Value) (w : World) : Calls Tryz.prog 254 #[v] w fun e w' => e = .returned (.int .i64 1) ∧ w' = w := by
  go_enter Tryz.func254, Tryz.ntmps254
  go_wp2
  go_ret
  exact ⟨rfl, rfl⟩
theorem methFirst5 (v : Value) (w : World) : Sem.run Tryz.prog (method 372 224 v "loop.example/g00101/impl.firstSlot") w = .ok (254, v) w := by kernel_rfl
theorem firstSlot6 (v : Value) (w : World) : Calls Tryz.prog 257 #[v] w fun e w' => e = .returned (.int .i64 5) ∧ w' = w := by
  go_enter Tryz.func257, Tryz.ntmps257
  go_wp2
  go_ret
  exact ⟨rfl, rfl⟩
theorem methFirst6 (v : Value) (w : World) : Sem.run Tryz.prog (method 372 225 v "loop.example/g00101/impl.firstSlot") w = .ok (257, v) w := by kernel_rfl
theorem info3 : (Tryz.prog.info? 3).map (fun i => (i.zero, i.size, i.bytes)) = some (some (.int .i64 0), 1, 8) := by kernel_rfl

/-- The first m slots from F on, as cells. -/
def gat (F : Int) (m : Nat) : List Value := (List.range m).map fun (j : Nat) => .int .i64 (F + 2 * j)
theorem gat_length (F : Int) (m : Nat) : (gat F m).length = m := by simp [gat]
theorem gat_succ (F : Int) (m : Nat) : gat F (m + 1) = gat F m ++ [.int .i64 (F + 2 * m)] := by simp [gat, List.range_succ]
theorem gat_get (F : Int) (m i : Nat) (h : i < m) : (gat F m)[i]? = some (.int .i64 (F + 2 * i)) := by simp [gat, h]
theorem own_gat {B : Nat} {w : World} {v : Value} {m : Nat} {F : Int} (h : w.ownsRow B 3 1 v m (gat F m)) : OwnF B w.heap.size 3 w v m m (fun i => .int .i64 (F + 2 * i)) := by
  obtain ⟨_, ⟨rfl, h0⟩ | ⟨g, cap, cur, rfl, hB, hg, hn, hm, hs, ht⟩⟩ := h
  · subst h0; exact ⟨none, 0, rfl, .inl rfl⟩
  · refine ⟨_, cap, rfl, .inr ⟨g, cur.size, fun i => cur.getD i (.int .i64 0), rfl, hB, ?_, by omega, ?_, fun i hi => ?_⟩⟩
    · exact (Array.getElem?_eq_some_iff.1 hg).1
    · exact ⟨cur, hg, rfl, fun i hi => by simp [hi]⟩
    · have h1 : (cur.toList.take (m * 1))[i]? = some (.int .i64 (F + 2 * i)) := by rw [ht]; exact gat_get F m i hi
      rw [List.getElem?_take_of_lt (by omega)] at h1
      have h2 : cur[i]? = some (.int .i64 (F + 2 * i)) := by simpa using h1
      simp [Array.getD_eq_getD_getElem?, h2]
theorem gat_step {B m : Nat} {F : Int} {w wr w1 : World} {u v' : Value} {o : Obj} (hB : B ≤ wr.heap.size)
    (hown : wr.ownsRow B 3 1 u m (gat F m)) (hnx : Below B w wr)
    (hown' : w1.ownsRow B 3 1 v' (m + 1) (gat F m ++ [.int .i64 (F + 2 * m)])) (hgrow : (wr.alloc o).grownBy w1 u.ownBlock) :
    w1.ownsRow B 3 1 v' (m + 1) (gat F (m + 1)) ∧ Below B w w1 :=
  ⟨by rw [gat_succ]; exact hown', (hnx.alloc (by omega) o).grown hgrow (by simp; omega) (fun j hj => by have := (hown.lt j hj).1; omega)⟩

def slN (k s : Int) : Nat := if sOk k s = true then (s - fs k + 1).toNat / 2 else 0
theorem sOk_kinds {k s : Int} (h : sOk k s = true) : k = 1 ∧ 1 ≤ s ∧ s ≤ 21 ∨ k = 2 ∧ s = 3 ∨ k = 3 ∧ 16 ≤ s ∧ s ≤ 256 ∨ k = 4 ∧ 1 ≤ s ∧ s ≤ 25 ∨ k = 5 ∧ s = 2 ∨ k = 6 ∧ s = 126 := by
  rw [sOk_iff] at h
  unfold SOk at h
  omega
theorem slN_lt {k s : Int} (h : sOk k s = true) (m : Nat) : fs k + 2 * m < s ↔ m < slN k s := by
  simp only [slN, h, if_true]
  rcases sOk_kinds h with ⟨rfl, _⟩ | ⟨rfl, _⟩ | ⟨rfl, _⟩ | ⟨rfl, _⟩ | ⟨rfl, _⟩ | ⟨rfl, _⟩ <;> simp [fs] <;> omega
theorem slN_le (k s : Int) : slN k s ≤ 128 := by
  unfold slN
  split
  · rename_i h
    rcases sOk_kinds h with ⟨rfl, _⟩ | ⟨rfl, _⟩ | ⟨rfl, _⟩ | ⟨rfl, _⟩ | ⟨rfl, _⟩ | ⟨rfl, _⟩ <;> simp [fs] <;> omega
  · omega
end Go.Proofs.YtmckcnmlhgpnhaaGreat

/- The model's Slots. -/
namespace Go.Proofs.YtmckcnmlhgpnhaaGreat
set_option maxRecDepth 20000
open Go.RowKit Go.Maps
set_option linter.unusedSimpArgs false
set_option linter.unusedVariables false

theorem own_empty {w w1 : World} {o : Obj} (F : Int) (hb : Below ((w.alloc (.cells #[] 3)).alloc o).heap.size ((w.alloc (.cells #[] 3)).alloc o) w1) :
    w1.ownsRow w.heap.size 3 1 (.slice (some ⟨w.heap.size, 0, none⟩) 0 0) 0 (gat F 0) ∧ Below w.heap.size w w1 := by
  refine ⟨⟨by simp [gat], .inr ⟨w.heap.size, 0, #[], rfl, Nat.le_refl _, ?_, Nat.le_refl _, Nat.zero_le _, rfl, by simp [gat]⟩⟩, ?_⟩
  · rw [hb.block w.heap.size (by simp; omega)]
    rw [Go.Deep.blk_alloc_lt _ _ _ (by simp)]
    exact Go.Deep.blk_alloc_new _ _
  · exact (((Below.refl _ _).alloc (Nat.le_refl _) _).alloc (by simp) _).trans (hb.mono (by simp; omega))
theorem hOk_sOk {k s : Int} (h : sOk k s = true) : hOk k s (if hasS k = true then 1 else 0) = true := by
  by_cases h1 : hasS k = true
  · rw [if_pos h1, hOk_born _ h h1]; decide
  · rw [if_neg h1, hOk_plain _ h (by simpa using h1)]; decide

theorem specSlots1 (s : Int) (N : Nat) (w : World) (hs : sOk 1 s = true) (hN : ∀ m : Nat, (65536 : Int) + 2 * m < s ↔ m < N) (s0 : 1 ≤ s) (s1 : s ≤ 256) (hN1 : N ≤ 128) (hh : hOk 1 s 0 = true) :
    Calls Tryz.prog 44 #[.int .i64 1, .int .i64 s] w fun e w' => ∃ v', e = .returned v' ∧ OwnF w.heap.size w'.heap.size 3 w' v' N N (fun i => .int .i64 (65536 + 2 * i)) ∧ Below w.heap.size w w' := by
  obtain ⟨i0, hi, hz0, hz1, hz2⟩ := info_parts info3
  go_enter Tryz.func44, Tryz.ntmps44
  go_wp2_with (go_at_call 99; refine (specHeadOk_any _ _ _ _).mono ?_; rintro e w1 ⟨rfl, hb⟩)
  obtain ⟨hE, hB⟩ := own_empty 65536 hb
  clear hb
  go_loopw [5, 8] (fun v i wr => i = .int .i64 (s + 1) ∧ v = .slice (some ⟨w.heap.size, 0, none⟩) 0 0 ∧ wr = w1) (fun _ i _ => 0)
  case atStart => exact ⟨rfl, rfl, rfl⟩
  case round =>
    obtain ⟨rfl, rfl, rfl⟩ := hrel
    have hN0 : N = 0 := by
      by_cases h : N = 0
      · exact h
      · have := (hN 0).2 (by omega); omega
    go_wp2
    go_ret
    subst hN0
    exact ⟨_, rfl, own_gat hE, hB⟩
theorem specSlots2 (s : Int) (N : Nat) (w : World) (hs : sOk 2 s = true) (hN : ∀ m : Nat, (2 : Int) + 2 * m < s ↔ m < N) (s0 : 1 ≤ s) (s1 : s ≤ 256) (hN1 : N ≤ 128) (hh : hOk 2 s 1 = true) :
    Calls Tryz.prog 44 #[.int .i64 2, .int .i64 s] w fun e w' => ∃ v', e = .returned v' ∧ OwnF w.heap.size w'.heap.size 3 w' v' N N (fun i => .int .i64 (2 + 2 * i)) ∧ Below w.heap.size w w' := by
  obtain ⟨i0, hi, hz0, hz1, hz2⟩ := info_parts info3
  go_enter Tryz.func44, Tryz.ntmps44
  go_wp2_with (go_at_call 99; refine (specHeadOk_any _ _ _ _).mono ?_; rintro e w1 ⟨rfl, hb⟩)
  obtain ⟨hE, hB⟩ := own_empty 2 hb
  clear hb
  go_loopw [5, 8] (fun v i wr => ∃ m : Nat, m ≤ N ∧ i = .int .i64 (2 + 2 * m) ∧ wr.ownsRow w.heap.size 3 1 v m (gat 2 m) ∧ Below w.heap.size w wr) (fun _ i _ => 2 * N + 2 - (intOf i).toNat)
  case atStart => exact ⟨0, Nat.zero_le _, rfl, hE, hB⟩
  case round =>
    clear hE hB
    obtain ⟨m, hm, rfl, hown, hF⟩ := hrel
    by_cases hlt : m < N
    · have h1 : (2 : Int) + 2 * m < s := (hN m).2 hlt
      go_wp2_with (at_builtin; refine wpList_append_own _ rfl _ _ 64 rfl w.heap.size 3 i0 (.int .i64 0) 1 8 Tryz.underlying64 hi hz0 hz1 hz2 rfl (by decide) _ m (gat 2 m) rfl (hown.alloc _) ⟨wr.heap.size, 0, none⟩ 1 1 [.int .i64 (2 + 2 * m)] rfl rfl (cell_one_new _ _ _) (ints_oneCell .i64 [2 + 2 * m]) (by unfold maxLen; omega) (by omega) (by have := hF.size; simp; omega) ?_)
      intro v' w2 hown' hgrow _
      have R := gat_step (by have := hF.size; omega) hown hF hown' hgrow
      clear hown' hgrow hown hF
      go_wp2
      go_roundw
      case rel => exact ⟨m + 1, by omega, by go_num, R.1, R.2⟩
      case measure => simp [intOf]; omega
    · have h1 : ¬ (2 : Int) + 2 * m < s := fun h => hlt ((hN m).1 h)
      obtain rfl : m = N := by omega
      go_wp2
      go_ret
      exact ⟨_, rfl, own_gat hown, hF⟩
theorem specSlots3 (s : Int) (N : Nat) (w : World) (hs : sOk 3 s = true) (hN : ∀ m : Nat, (1 : Int) + 2 * m < s ↔ m < N) (s0 : 1 ≤ s) (s1 : s ≤ 256) (hN1 : N ≤ 128) (hh : hOk 3 s 0 = true) :
    Calls Tryz.prog 44 #[.int .i64 3, .int .i64 s] w fun e w' => ∃ v', e = .returned v' ∧ OwnF w.heap.size w'.heap.size 3 w' v' N N (fun i => .int .i64 (1 + 2 * i)) ∧ Below w.heap.size w w' := by
  obtain ⟨i0, hi, hz0, hz1, hz2⟩ := info_parts info3
  go_enter Tryz.func44, Tryz.ntmps44
  go_wp2_with (go_at_call 99; refine (specHeadOk_any _ _ _ _).mono ?_; rintro e w1 ⟨rfl, hb⟩)
  obtain ⟨hE, hB⟩ := own_empty 1 hb
  clear hb
  go_loopw [5, 8] (fun v i wr => ∃ m : Nat, m ≤ N ∧ i = .int .i64 (1 + 2 * m) ∧ wr.ownsRow w.heap.size 3 1 v m (gat 1 m) ∧ Below w.heap.size w wr) (fun _ i _ => 2 * N + 1 - (intOf i).toNat)
  case atStart => exact ⟨0, Nat.zero_le _, rfl, hE, hB⟩
  case round =>
    clear hE hB
    obtain ⟨m, hm, rfl, hown, hF⟩ := hrel
    by_cases hlt : m < N
    · have h1 : (1 : Int) + 2 * m < s := (hN m).2 hlt
      go_wp2_with (at_builtin; refine wpList_append_own _ rfl _ _ 64 rfl w.heap.size 3 i0 (.int .i64 0) 1 8 Tryz.underlying64 hi hz0 hz1 hz2 rfl (by decide) _ m (gat 1 m) rfl (hown.alloc _) ⟨wr.heap.size, 0, none⟩ 1 1 [.int .i64 (1 + 2 * m)] rfl rfl (cell_one_new _ _ _) (ints_oneCell .i64 [1 + 2 * m]) (by unfold maxLen; omega) (by omega) (by have := hF.size; simp; omega) ?_)
      intro v' w2 hown' hgrow _
      have R := gat_step (by have := hF.size; omega) hown hF hown' hgrow
      clear hown' hgrow hown hF
      go_wp2
      go_roundw
      case rel => exact ⟨m + 1, by omega, by go_num, R.1, R.2⟩
      case measure => simp [intOf]; omega
    · have h1 : ¬ (1 : Int) + 2 * m < s := fun h => hlt ((hN m).1 h)
      obtain rfl : m = N := by omega
      go_wp2
      go_ret
      exact ⟨_, rfl, own_gat hown, hF⟩
theorem specSlots4 (s : Int) (N : Nat) (w : World) (hs : sOk 4 s = true) (hN : ∀ m : Nat, (2 : Int) + 2 * m < s ↔ m < N) (s0 : 1 ≤ s) (s1 : s ≤ 256) (hN1 : N ≤ 128) (hh : hOk 4 s 1 = true) :
    Calls Tryz.prog 44 #[.int .i64 4, .int .i64 s] w fun e w' => ∃ v', e = .returned v' ∧ OwnF w.heap.size w'.heap.size 3 w' v' N N (fun i => .int .i64 (2 + 2 * i)) ∧ Below w.heap.size w w' := by
  obtain ⟨i0, hi, hz0, hz1, hz2⟩ := info_parts info3
  go_enter Tryz.func44, Tryz.ntmps44
  go_wp2_with (go_at_call 99; refine (specHeadOk_any _ _ _ _).mono ?_; rintro e w1 ⟨rfl, hb⟩)
  obtain ⟨hE, hB⟩ := own_empty 2 hb
  clear hb
  go_loopw [5, 8] (fun v i wr => ∃ m : Nat, m ≤ N ∧ i = .int .i64 (2 + 2 * m) ∧ wr.ownsRow w.heap.size 3 1 v m (gat 2 m) ∧ Below w.heap.size w wr) (fun _ i _ => 2 * N + 2 - (intOf i).toNat)
  case atStart => exact ⟨0, Nat.zero_le _, rfl, hE, hB⟩
  case round =>
    clear hE hB
    obtain ⟨m, hm, rfl, hown, hF⟩ := hrel
    by_cases hlt : m < N
    · have h1 : (2 : Int) + 2 * m < s := (hN m).2 hlt
      go_wp2_with (at_builtin; refine wpList_append_own _ rfl _ _ 64 rfl w.heap.size 3 i0 (.int .i64 0) 1 8 Tryz.underlying64 hi hz0 hz1 hz2 rfl (by decide) _ m (gat 2 m) rfl (hown.alloc _) ⟨wr.heap.size, 0, none⟩ 1 1 [.int .i64 (2 + 2 * m)] rfl rfl (cell_one_new _ _ _) (ints_oneCell .i64 [2 + 2 * m]) (by unfold maxLen; omega) (by omega) (by have := hF.size; simp; omega) ?_)
      intro v' w2 hown' hgrow _
      have R := gat_step (by have := hF.size; omega) hown hF hown' hgrow
      clear hown' hgrow hown hF
      go_wp2
      go_roundw
      case rel => exact ⟨m + 1, by omega, by go_num, R.1, R.2⟩
      case measure => simp [intOf]; omega
    · have h1 : ¬ (2 : Int) + 2 * m < s := fun h => hlt ((hN m).1 h)
      obtain rfl : m = N := by omega
      go_wp2
      go_ret
      exact ⟨_, rfl, own_gat hown, hF⟩
theorem specSlots5 (s : Int) (N : Nat) (w : World) (hs : sOk 5 s = true) (hN : ∀ m : Nat, (1 : Int) + 2 * m < s ↔ m < N) (s0 : 1 ≤ s) (s1 : s ≤ 256) (hN1 : N ≤ 128) (hh : hOk 5 s 0 = true) :
    Calls Tryz.prog 44 #[.int .i64 5, .int .i64 s] w fun e w' => ∃ v', e = .returned v' ∧ OwnF w.heap.size w'.heap.size 3 w' v' N N (fun i => .int .i64 (1 + 2 * i)) ∧ Below w.heap.size w w' := by
  obtain ⟨i0, hi, hz0, hz1, hz2⟩ := info_parts info3
  go_enter Tryz.func44, Tryz.ntmps44
  go_wp2_with (go_at_call 99; refine (specHeadOk_any _ _ _ _).mono ?_; rintro e w1 ⟨rfl, hb⟩)
  obtain ⟨hE, hB⟩ := own_empty 1 hb
  clear hb
  go_loopw [5, 8] (fun v i wr => ∃ m : Nat, m ≤ N ∧ i = .int .i64 (1 + 2 * m) ∧ wr.ownsRow w.heap.size 3 1 v m (gat 1 m) ∧ Below w.heap.size w wr) (fun _ i _ => 2 * N + 1 - (intOf i).toNat)
  case atStart => exact ⟨0, Nat.zero_le _, rfl, hE, hB⟩
  case round =>
    clear hE hB
    obtain ⟨m, hm, rfl, hown, hF⟩ := hrel
    by_cases hlt : m < N
    · have h1 : (1 : Int) + 2 * m < s := (hN m).2 hlt
      go_wp2_with (at_builtin; refine wpList_append_own _ rfl _ _ 64 rfl w.heap.size 3 i0 (.int .i64 0) 1 8 Tryz.underlying64 hi hz0 hz1 hz2 rfl (by decide) _ m (gat 1 m) rfl (hown.alloc _) ⟨wr.heap.size, 0, none⟩ 1 1 [.int .i64 (1 + 2 * m)] rfl rfl (cell_one_new _ _ _) (ints_oneCell .i64 [1 + 2 * m]) (by unfold maxLen; omega) (by omega) (by have := hF.size; simp; omega) ?_)
      intro v' w2 hown' hgrow _
      have R := gat_step (by have := hF.size; omega) hown hF hown' hgrow
      clear hown' hgrow hown hF
      go_wp2
      go_roundw
      case rel => exact ⟨m + 1, by omega, by go_num, R.1, R.2⟩
      case measure => simp [intOf]; omega
    · have h1 : ¬ (1 : Int) + 2 * m < s := fun h => hlt ((hN m).1 h)
      obtain rfl : m = N := by omega
      go_wp2
      go_ret
      exact ⟨_, rfl, own_gat hown, hF⟩
theorem specSlots6 (s : Int) (N : Nat) (w : World) (hs : sOk 6 s = true) (hN : ∀ m : Nat, (5 : Int) + 2 * m < s ↔ m < N) (s0 : 1 ≤ s) (s1 : s ≤ 256) (hN1 : N ≤ 128) (hh : hOk 6 s 1 = true) :
    Calls Tryz.prog 44 #[.int .i64 6, .int .i64 s] w fun e w' => ∃ v', e = .returned v' ∧ OwnF w.heap.size w'.heap.size 3 w' v' N N (fun i => .int .i64 (5 + 2 * i)) ∧ Below w.heap.size w w' := by
  obtain ⟨i0, hi, hz0, hz1, hz2⟩ := info_parts info3
  go_enter Tryz.func44, Tryz.ntmps44
  go_wp2_with (go_at_call 99; refine (specHeadOk_any _ _ _ _).mono ?_; rintro e w1 ⟨rfl, hb⟩)
  obtain ⟨hE, hB⟩ := own_empty 5 hb
  clear hb
  go_loopw [5, 8] (fun v i wr => ∃ m : Nat, m ≤ N ∧ i = .int .i64 (5 + 2 * m) ∧ wr.ownsRow w.heap.size 3 1 v m (gat 5 m) ∧ Below w.heap.size w wr) (fun _ i _ => 2 * N + 5 - (intOf i).toNat)
  case atStart => exact ⟨0, Nat.zero_le _, rfl, hE, hB⟩
  case round =>
    clear hE hB
    obtain ⟨m, hm, rfl, hown, hF⟩ := hrel
    by_cases hlt : m < N
    · have h1 : (5 : Int) + 2 * m < s := (hN m).2 hlt
      go_wp2_with (at_builtin; refine wpList_append_own _ rfl _ _ 64 rfl w.heap.size 3 i0 (.int .i64 0) 1 8 Tryz.underlying64 hi hz0 hz1 hz2 rfl (by decide) _ m (gat 5 m) rfl (hown.alloc _) ⟨wr.heap.size, 0, none⟩ 1 1 [.int .i64 (5 + 2 * m)] rfl rfl (cell_one_new _ _ _) (ints_oneCell .i64 [5 + 2 * m]) (by unfold maxLen; omega) (by omega) (by have := hF.size; simp; omega) ?_)
      intro v' w2 hown' hgrow _
      have R := gat_step (by have := hF.size; omega) hown hF hown' hgrow
      clear hown' hgrow hown hF
      go_wp2
      go_roundw
      case rel => exact ⟨m + 1, by omega, by go_num, R.1, R.2⟩
      case measure => simp [intOf]; omega
    · have h1 : ¬ (5 : Int) + 2 * m < s := fun h => hlt ((hN m).1 h)
      obtain rfl : m = N := by omega
      go_wp2
      go_ret
      exact ⟨_, rfl, own_gat hown, hF⟩

theorem hOk_not {k s : Int} (h : sOk k s = false) (n : Int) : hOk k s n = false := hOk_no n h
theorem specSlots_any (k s : Int) (w : World) :
    Calls Tryz.prog 44 #[.int .i64 k, .int .i64 s] w fun e w' => ∃ v', e = .returned v' ∧ OwnF w.heap.size w'.heap.size 3 w' v' (slN k s) (slN k s) (fun i => .int .i64 (fs k + 2 * i)) ∧ Below w.heap.size w w' := by
  by_cases hs : sOk k s = true
  · have h1 := slN_lt hs
    have h2 := slN_le k s
    have h3 := hOk_sOk hs
    rcases sOk_kinds hs with ⟨rfl, _⟩ | ⟨rfl, _⟩ | ⟨rfl, _⟩ | ⟨rfl, _⟩ | ⟨rfl, _⟩ | ⟨rfl, _⟩
    · exact specSlots1 s _ w hs h1 (by omega) (by omega) h2 h3
    · exact specSlots2 s _ w hs h1 (by omega) (by omega) h2 h3
    · exact specSlots3 s _ w hs h1 (by omega) (by omega) h2 h3
    · exact specSlots4 s _ w hs h1 (by omega) (by omega) h2 h3
    · exact specSlots5 s _ w hs h1 (by omega) (by omega) h2 h3
    · exact specSlots6 s _ w hs h1 (by omega) (by omega) h2 h3
  · have h0 : slN k s = 0 := by simp [slN, hs]
    rw [Bool.not_eq_true] at hs
    rw [h0]
    have hh := hOk_not hs
    by_cases e2 : k = 2
    · subst e2
      go_enter Tryz.func44, Tryz.ntmps44
      go_wp2_with (go_at_call 99; refine (specHeadOk_any _ _ _ _).mono ?_; rintro e w1 ⟨rfl, hb⟩; obtain ⟨hE, hB⟩ := own_empty 0 hb; clear hb)
      go_ret
      exact ⟨_, rfl, ⟨_, _, rfl, .inl rfl⟩, hB⟩
    by_cases e4 : k = 4
    · subst e4
      go_enter Tryz.func44, Tryz.ntmps44
      go_wp2_with (go_at_call 99; refine (specHeadOk_any _ _ _ _).mono ?_; rintro e w1 ⟨rfl, hb⟩; obtain ⟨hE, hB⟩ := own_empty 0 hb; clear hb)
      go_ret
      exact ⟨_, rfl, ⟨_, _, rfl, .inl rfl⟩, hB⟩
    by_cases e6 : k = 6
    · subst e6
      go_enter Tryz.func44, Tryz.ntmps44
      go_wp2_with (go_at_call 99; refine (specHeadOk_any _ _ _ _).mono ?_; rintro e w1 ⟨rfl, hb⟩; obtain ⟨hE, hB⟩ := own_empty 0 hb; clear hb)
      go_ret
      exact ⟨_, rfl, ⟨_, _, rfl, .inl rfl⟩, hB⟩
    have f2 : (k == 2) = false := by simpa using e2
    have f4 : (k == 4) = false := by simpa using e4
    have f6 : (k == 6) = false := by simpa using e6
    go_enter Tryz.func44, Tryz.ntmps44
    go_wp2_with (go_at_call 99; refine (specHeadOk_any _ _ _ _).mono ?_; rintro e w1 ⟨rfl, hb⟩; obtain ⟨hE, hB⟩ := own_empty 0 hb; clear hb)
    go_ret
    exact ⟨_, rfl, ⟨_, _, rfl, .inl rfl⟩, hB⟩
end Go.Proofs.YtmckcnmlhgpnhaaGreat
