/- - -/
import Derived.Test.YtmckcnmlhgpnhaaGreatWRowF
import Derived.Deep.CutRange
import Derived.Deep.CutBlock
import Derived.Maps.AppendAt
namespace Go.Proofs.YtmckcnmlhgpnhaaGreat
set_option maxRecDepth 20000
open Go.RowKit
set_option linter.unusedSimpArgs false
set_option linter.unusedVariables false
open Go.RowKit Go.Maps
def zd1 (k : Int) : TypeId := if k = 1 then 220 else if k = 2 then 221 else if k = 3 then 222 else if k = 4 then 223 else if k = 5 then 224 else 225
theorem zhb (k : Int) (v : Value) (w : World) :
 Calls Tryz.prog 160 #[.int .i64 k, v] w fun e w' => e = .returned (.iface (zd1 k) v) /\ w' = w := by
 go_enter Tryz.func160, Tryz.ntmps160
 go_wp2
 all_goals
  go_ret
  refine ⟨?_, rfl⟩
  go_light
  simp [zd1]
  simp at *
  simp [*]
def fs (k : Int) : Int := if k = 1 then 65536 else if k = 2 \/ k = 4 then 2 else if k = 3 \/ k = 5 then 1 else 5
theorem zq6 (v : Value) (w : World) : Calls Tryz.prog 242 #[v] w fun e w' => e = .returned (.int .i64 65536) /\ w' = w := by
 go_enter Tryz.func242, Tryz.ntmps242
 go_wp2
 go_ret
 exact ⟨rfl, rfl⟩
theorem zq7 (v : Value) (w : World) : Sem.run Tryz.prog (method 372 220 v "loop.example/g00101/impl.firstSlot") w = .ok (242, v) w := by kernel_rfl
theorem zq8 (v : Value) (w : World) : Calls Tryz.prog 245 #[v] w fun e w' => e = .returned (.int .i64 2) /\ w' = w := by
 go_enter Tryz.func245, Tryz.ntmps245
 go_wp2
 go_ret
 exact ⟨rfl, rfl⟩
theorem zq9 (v : Value) (w : World) : Sem.run Tryz.prog (method 372 221 v "loop.example/g00101/impl.firstSlot") w = .ok (245, v) w := by kernel_rfl
theorem zra (v : Value) (w : World) : Calls Tryz.prog 248 #[v] w fun e w' => e = .returned (.int .i64 1) /\ w' = w := by
 go_enter Tryz.func248, Tryz.ntmps248
 go_wp2
 go_ret
 exact ⟨rfl, rfl⟩
theorem zrb (v : Value) (w : World) : Sem.run Tryz.prog (method 372 222 v "loop.example/g00101/impl.firstSlot") w = .ok (248, v) w := by kernel_rfl
theorem zrc (v : Value) (w : World) : Calls Tryz.prog 251 #[v] w fun e w' => e = .returned (.int .i64 2) /\ w' = w := by
 go_enter Tryz.func251, Tryz.ntmps251
 go_wp2
 go_ret
 exact ⟨rfl, rfl⟩
theorem zrd (v : Value) (w : World) : Sem.run Tryz.prog (method 372 223 v "loop.example/g00101/impl.firstSlot") w = .ok (251, v) w := by kernel_rfl
theorem zre (v : Value) (w : World) : Calls Tryz.prog 254 #[v] w fun e w' => e = .returned (.int .i64 1) /\ w' = w := by
 go_enter Tryz.func254, Tryz.ntmps254
 go_wp2
 go_ret
 exact ⟨rfl, rfl⟩
theorem zrf (v : Value) (w : World) : Sem.run Tryz.prog (method 372 224 v "loop.example/g00101/impl.firstSlot") w = .ok (254, v) w := by kernel_rfl
theorem zrg (v : Value) (w : World) : Calls Tryz.prog 257 #[v] w fun e w' => e = .returned (.int .i64 5) /\ w' = w := by
 go_enter Tryz.func257, Tryz.ntmps257
 go_wp2
 go_ret
 exact ⟨rfl, rfl⟩
theorem zrh (v : Value) (w : World) : Sem.run Tryz.prog (method 372 225 v "loop.example/g00101/impl.firstSlot") w = .ok (257, v) w := by kernel_rfl
theorem zge : (Tryz.prog.info? 3).map (fun i => (i.zero, i.size, i.bytes)) = some (some (.int .i64 0), 1, 8) := by kernel_rfl
def gat (F : Int) (m : Nat) : List Value := (List.range m).map fun (j : Nat) => .int .i64 (F + 2 * j)
theorem zu0 (F : Int) (m : Nat) : gat F (m + 1) = gat F m ++ [.int .i64 (F + 2 * m)] := by simp [gat, List.range_succ]
theorem zwr (F : Int) (m i : Nat) (h : i < m) : (gat F m)[i]? = some (.int .i64 (F + 2 * i)) := by simp [gat, h]
theorem zfu {B : Nat} {w : World} {v : Value} {m : Nat} {F : Int} (h : w.ownsRow B 3 1 v m (gat F m)) : zaz B w.heap.size 3 w v m m (fun i => .int .i64 (F + 2 * i)) := by
 obtain ⟨_, ⟨rfl, h0⟩ | ⟨g, cap, cur, rfl, hB, hg, hn, hm, hs, ht⟩⟩ := h
 · subst h0; exact ⟨none, 0, rfl, .inl rfl⟩
 · refine ⟨_, cap, rfl, .inr ⟨g, cur.size, fun i => cur.getD i (.int .i64 0), rfl, hB, ?_, by omega, ?_, fun i hi => ?_⟩⟩
   · exact (Array.getElem?_eq_some_iff.1 hg).1
   · exact ⟨cur, hg, rfl, fun i hi => by simp [hi]⟩
   · have h1 : (cur.toList.take (m * 1))[i]? = some (.int .i64 (F + 2 * i)) := by rw [ht]; exact zwr F m i hi
     rw [List.getElem?_take_of_lt (by omega)] at h1
     have h2 : cur[i]? = some (.int .i64 (F + 2 * i)) := by simpa using h1
     simp [Array.getD_eq_getD_getElem?, h2]
theorem zfy {B m : Nat} {F : Int} {w wr w1 : World} {u v' : Value} {o : Obj} (hB : B <= wr.heap.size)
 (hown : wr.ownsRow B 3 1 u m (gat F m)) (hnx : Below B w wr)
 (hown' : w1.ownsRow B 3 1 v' (m + 1) (gat F m ++ [.int .i64 (F + 2 * m)])) (hgrow : (wr.alloc o).grownBy w1 u.ownBlock) :
 w1.ownsRow B 3 1 v' (m + 1) (gat F (m + 1)) /\ Below B w w1 :=
 ⟨by rw [zu0]; exact hown', (hnx.alloc (by omega) o).grown hgrow (by simp; omega) (fun j hj => by have := (hown.lt j hj).1; omega)⟩
def slN (k s : Int) : Nat := if sOk k s = true then (s - fs k + 1).toNat / 2 else 0
theorem zbe {k s : Int} (h : sOk k s = true) : k = 1 /\ 1 <= s /\ s <= 21 \/ k = 2 /\ s = 3 \/ k = 3 /\ 16 <= s /\ s <= 256 \/ k = 4 /\ 1 <= s /\ s <= 25 \/ k = 5 /\ s = 2 \/ k = 6 /\ s = 126 := by
 rw [zft] at h
 unfold SOk at h
 omega
theorem zff {k s : Int} (h : sOk k s = true) (m : Nat) : fs k + 2 * m < s ↔ m < slN k s := by
 simp only [slN, h, if_true]
 rcases zbe h with ⟨rfl, _⟩ | ⟨rfl, _⟩ | ⟨rfl, _⟩ | ⟨rfl, _⟩ | ⟨rfl, _⟩ | ⟨rfl, _⟩ <;> simp [fs] <;> omega
theorem zjz (k s : Int) : slN k s <= 128 := by
 unfold slN
 split
 · rename_i h
   rcases zbe h with ⟨rfl, _⟩ | ⟨rfl, _⟩ | ⟨rfl, _⟩ | ⟨rfl, _⟩ | ⟨rfl, _⟩ | ⟨rfl, _⟩ <;> simp [fs] <;> omega
 · omega
theorem zcv {w w1 : World} {o : Obj} (F : Int) (hb : Below ((w.alloc (.cells #[] 3)).alloc o).heap.size ((w.alloc (.cells #[] 3)).alloc o) w1) :
 w1.ownsRow w.heap.size 3 1 (.slice (some ⟨w.heap.size, 0, none⟩) 0 0) 0 (gat F 0) /\ Below w.heap.size w w1 := by
 refine ⟨⟨by simp [gat], .inr ⟨w.heap.size, 0, #[], rfl, Nat.le_refl _, ?_, Nat.le_refl _, Nat.zero_le _, rfl, by simp [gat]⟩⟩, ?_⟩
 · rw [hb.block w.heap.size (by simp; omega)]
   rw [Go.Deep.blk_alloc_lt _ _ _ (by simp)]
   exact Go.Deep.blk_alloc_new _ _
 · exact (((Below.refl _ _).alloc (Nat.le_refl _) _).alloc (by simp) _).trans (hb.mono (by simp; omega))
theorem zwp {k s : Int} (h : sOk k s = true) : hOk k s (if zht k = true then 1 else 0) = true := by
 by_cases h1 : zht k = true
 · rw [if_pos h1, zjd _ h h1]; decide
 · rw [if_neg h1, zk8 _ h (by simpa using h1)]; decide
theorem zq0 (s : Int) (N : Nat) (w : World) (hs : sOk 1 s = true) (hN : ∀ m : Nat, (65536 : Int) + 2 * m < s ↔ m < N) (s0 : 1 <= s) (s1 : s <= 256) (hN1 : N <= 128) (hh : hOk 1 s 0 = true) :
 Calls Tryz.prog 44 #[.int .i64 1, .int .i64 s] w fun e w' => ∃ v', e = .returned v' /\ zaz w.heap.size w'.heap.size 3 w' v' N N (fun i => .int .i64 (65536 + 2 * i)) /\ Below w.heap.size w w' := by
 obtain ⟨i0, hi, hz0, hz1, hz2⟩ := info_parts zge
 go_enter Tryz.func44, Tryz.ntmps44
 go_wp2_with (go_at_call 99; refine (zaw _ _ _ _).mono ?_; rintro e w1 ⟨rfl, hb⟩)
 obtain ⟨hE, hB⟩ := zcv 65536 hb
 clear hb
 go_loopw [5, 8] (fun v i wr => i = .int .i64 (s + 1) /\ v = .slice (some ⟨w.heap.size, 0, none⟩) 0 0 /\ wr = w1) (fun _ i _ => 0)
 case atStart => exact ⟨rfl, rfl, rfl⟩
 case round =>
  obtain ⟨rfl, rfl, rfl⟩ := hrel
  have hN0 : N = 0 := by
   by_cases h : N = 0
   · exact h
   · have := (hN 0).2 (by omega); omega
  go_wp2
  go_ret
  subst hN0
  exact ⟨_, rfl, zfu hE, hB⟩
theorem zq1 (s : Int) (N : Nat) (w : World) (hs : sOk 2 s = true) (hN : ∀ m : Nat, (2 : Int) + 2 * m < s ↔ m < N) (s0 : 1 <= s) (s1 : s <= 256) (hN1 : N <= 128) (hh : hOk 2 s 1 = true) :
 Calls Tryz.prog 44 #[.int .i64 2, .int .i64 s] w fun e w' => ∃ v', e = .returned v' /\ zaz w.heap.size w'.heap.size 3 w' v' N N (fun i => .int .i64 (2 + 2 * i)) /\ Below w.heap.size w w' := by
 obtain ⟨i0, hi, hz0, hz1, hz2⟩ := info_parts zge
 go_enter Tryz.func44, Tryz.ntmps44
 go_wp2_with (go_at_call 99; refine (zaw _ _ _ _).mono ?_; rintro e w1 ⟨rfl, hb⟩)
 obtain ⟨hE, hB⟩ := zcv 2 hb
 clear hb
 go_loopw [5, 8] (fun v i wr => ∃ m : Nat, m <= N /\ i = .int .i64 (2 + 2 * m) /\ wr.ownsRow w.heap.size 3 1 v m (gat 2 m) /\ Below w.heap.size w wr) (fun _ i _ => 2 * N + 2 - (intOf i).toNat)
 case atStart => exact ⟨0, Nat.zero_le _, rfl, hE, hB⟩
 case round =>
  clear hE hB
  obtain ⟨m, hm, rfl, hown, hF⟩ := hrel
  by_cases hlt : m < N
  · have h1 : (2 : Int) + 2 * m < s := (hN m).2 hlt
    go_wp2_with (at_builtin; refine wpList_append_own _ rfl _ _ 64 rfl w.heap.size 3 i0 (.int .i64 0) 1 8 Tryz.underlying64 hi hz0 hz1 hz2 rfl (by decide) _ m (gat 2 m) rfl (hown.alloc _) ⟨wr.heap.size, 0, none⟩ 1 1 [.int .i64 (2 + 2 * m)] rfl rfl (cell_one_new _ _ _) (ints_oneCell .i64 [2 + 2 * m]) (by unfold maxLen; omega) (by omega) (by have := hF.size; simp; omega) ?_)
    intro v' w2 hown' hgrow _
    have R := zfy (by have := hF.size; omega) hown hF hown' hgrow
    clear hown' hgrow hown hF
    go_wp2
    go_roundw
    case rel => exact ⟨m + 1, by omega, by go_num, R.1, R.2⟩
    case measure => simp [intOf]; omega
  · have h1 : ¬ (2 : Int) + 2 * m < s := fun h => hlt ((hN m).1 h)
    obtain rfl : m = N := by omega
    go_wp2
    go_ret
    exact ⟨_, rfl, zfu hown, hF⟩
theorem zq2 (s : Int) (N : Nat) (w : World) (hs : sOk 3 s = true) (hN : ∀ m : Nat, (1 : Int) + 2 * m < s ↔ m < N) (s0 : 1 <= s) (s1 : s <= 256) (hN1 : N <= 128) (hh : hOk 3 s 0 = true) :
 Calls Tryz.prog 44 #[.int .i64 3, .int .i64 s] w fun e w' => ∃ v', e = .returned v' /\ zaz w.heap.size w'.heap.size 3 w' v' N N (fun i => .int .i64 (1 + 2 * i)) /\ Below w.heap.size w w' := by
 obtain ⟨i0, hi, hz0, hz1, hz2⟩ := info_parts zge
 go_enter Tryz.func44, Tryz.ntmps44
 go_wp2_with (go_at_call 99; refine (zaw _ _ _ _).mono ?_; rintro e w1 ⟨rfl, hb⟩)
 obtain ⟨hE, hB⟩ := zcv 1 hb
 clear hb
 go_loopw [5, 8] (fun v i wr => ∃ m : Nat, m <= N /\ i = .int .i64 (1 + 2 * m) /\ wr.ownsRow w.heap.size 3 1 v m (gat 1 m) /\ Below w.heap.size w wr) (fun _ i _ => 2 * N + 1 - (intOf i).toNat)
 case atStart => exact ⟨0, Nat.zero_le _, rfl, hE, hB⟩
 case round =>
  clear hE hB
  obtain ⟨m, hm, rfl, hown, hF⟩ := hrel
  by_cases hlt : m < N
  · have h1 : (1 : Int) + 2 * m < s := (hN m).2 hlt
    go_wp2_with (at_builtin; refine wpList_append_own _ rfl _ _ 64 rfl w.heap.size 3 i0 (.int .i64 0) 1 8 Tryz.underlying64 hi hz0 hz1 hz2 rfl (by decide) _ m (gat 1 m) rfl (hown.alloc _) ⟨wr.heap.size, 0, none⟩ 1 1 [.int .i64 (1 + 2 * m)] rfl rfl (cell_one_new _ _ _) (ints_oneCell .i64 [1 + 2 * m]) (by unfold maxLen; omega) (by omega) (by have := hF.size; simp; omega) ?_)
    intro v' w2 hown' hgrow _
    have R := zfy (by have := hF.size; omega) hown hF hown' hgrow
    clear hown' hgrow hown hF
    go_wp2
    go_roundw
    case rel => exact ⟨m + 1, by omega, by go_num, R.1, R.2⟩
    case measure => simp [intOf]; omega
  · have h1 : ¬ (1 : Int) + 2 * m < s := fun h => hlt ((hN m).1 h)
    obtain rfl : m = N := by omega
    go_wp2
    go_ret
    exact ⟨_, rfl, zfu hown, hF⟩
theorem zq3 (s : Int) (N : Nat) (w : World) (hs : sOk 4 s = true) (hN : ∀ m : Nat, (2 : Int) + 2 * m < s ↔ m < N) (s0 : 1 <= s) (s1 : s <= 256) (hN1 : N <= 128) (hh : hOk 4 s 1 = true) :
 Calls Tryz.prog 44 #[.int .i64 4, .int .i64 s] w fun e w' => ∃ v', e = .returned v' /\ zaz w.heap.size w'.heap.size 3 w' v' N N (fun i => .int .i64 (2 + 2 * i)) /\ Below w.heap.size w w' := by
 obtain ⟨i0, hi, hz0, hz1, hz2⟩ := info_parts zge
 go_enter Tryz.func44, Tryz.ntmps44
 go_wp2_with (go_at_call 99; refine (zaw _ _ _ _).mono ?_; rintro e w1 ⟨rfl, hb⟩)
 obtain ⟨hE, hB⟩ := zcv 2 hb
 clear hb
 go_loopw [5, 8] (fun v i wr => ∃ m : Nat, m <= N /\ i = .int .i64 (2 + 2 * m) /\ wr.ownsRow w.heap.size 3 1 v m (gat 2 m) /\ Below w.heap.size w wr) (fun _ i _ => 2 * N + 2 - (intOf i).toNat)
 case atStart => exact ⟨0, Nat.zero_le _, rfl, hE, hB⟩
 case round =>
  clear hE hB
  obtain ⟨m, hm, rfl, hown, hF⟩ := hrel
  by_cases hlt : m < N
  · have h1 : (2 : Int) + 2 * m < s := (hN m).2 hlt
    go_wp2_with (at_builtin; refine wpList_append_own _ rfl _ _ 64 rfl w.heap.size 3 i0 (.int .i64 0) 1 8 Tryz.underlying64 hi hz0 hz1 hz2 rfl (by decide) _ m (gat 2 m) rfl (hown.alloc _) ⟨wr.heap.size, 0, none⟩ 1 1 [.int .i64 (2 + 2 * m)] rfl rfl (cell_one_new _ _ _) (ints_oneCell .i64 [2 + 2 * m]) (by unfold maxLen; omega) (by omega) (by have := hF.size; simp; omega) ?_)
    intro v' w2 hown' hgrow _
    have R := zfy (by have := hF.size; omega) hown hF hown' hgrow
    clear hown' hgrow hown hF
    go_wp2
    go_roundw
    case rel => exact ⟨m + 1, by omega, by go_num, R.1, R.2⟩
    case measure => simp [intOf]; omega
  · have h1 : ¬ (2 : Int) + 2 * m < s := fun h => hlt ((hN m).1 h)
    obtain rfl : m = N := by omega
    go_wp2
    go_ret
    exact ⟨_, rfl, zfu hown, hF⟩
theorem zq4 (s : Int) (N : Nat) (w : World) (hs : sOk 5 s = true) (hN : ∀ m : Nat, (1 : Int) + 2 * m < s ↔ m < N) (s0 : 1 <= s) (s1 : s <= 256) (hN1 : N <= 128) (hh : hOk 5 s 0 = true) :
 Calls Tryz.prog 44 #[.int .i64 5, .int .i64 s] w fun e w' => ∃ v', e = .returned v' /\ zaz w.heap.size w'.heap.size 3 w' v' N N (fun i => .int .i64 (1 + 2 * i)) /\ Below w.heap.size w w' := by
 obtain ⟨i0, hi, hz0, hz1, hz2⟩ := info_parts zge
 go_enter Tryz.func44, Tryz.ntmps44
 go_wp2_with (go_at_call 99; refine (zaw _ _ _ _).mono ?_; rintro e w1 ⟨rfl, hb⟩)
 obtain ⟨hE, hB⟩ := zcv 1 hb
 clear hb
 go_loopw [5, 8] (fun v i wr => ∃ m : Nat, m <= N /\ i = .int .i64 (1 + 2 * m) /\ wr.ownsRow w.heap.size 3 1 v m (gat 1 m) /\ Below w.heap.size w wr) (fun _ i _ => 2 * N + 1 - (intOf i).toNat)
 case atStart => exact ⟨0, Nat.zero_le _, rfl, hE, hB⟩
 case round =>
  clear hE hB
  obtain ⟨m, hm, rfl, hown, hF⟩ := hrel
  by_cases hlt : m < N
  · have h1 : (1 : Int) + 2 * m < s := (hN m).2 hlt
    go_wp2_with (at_builtin; refine wpList_append_own _ rfl _ _ 64 rfl w.heap.size 3 i0 (.int .i64 0) 1 8 Tryz.underlying64 hi hz0 hz1 hz2 rfl (by decide) _ m (gat 1 m) rfl (hown.alloc _) ⟨wr.heap.size, 0, none⟩ 1 1 [.int .i64 (1 + 2 * m)] rfl rfl (cell_one_new _ _ _) (ints_oneCell .i64 [1 + 2 * m]) (by unfold maxLen; omega) (by omega) (by have := hF.size; simp; omega) ?_)
    intro v' w2 hown' hgrow _
    have R := zfy (by have := hF.size; omega) hown hF hown' hgrow
    clear hown' hgrow hown hF
    go_wp2
    go_roundw
    case rel => exact ⟨m + 1, by omega, by go_num, R.1, R.2⟩
    case measure => simp [intOf]; omega
  · have h1 : ¬ (1 : Int) + 2 * m < s := fun h => hlt ((hN m).1 h)
    obtain rfl : m = N := by omega
    go_wp2
    go_ret
    exact ⟨_, rfl, zfu hown, hF⟩
theorem zq5 (s : Int) (N : Nat) (w : World) (hs : sOk 6 s = true) (hN : ∀ m : Nat, (5 : Int) + 2 * m < s ↔ m < N) (s0 : 1 <= s) (s1 : s <= 256) (hN1 : N <= 128) (hh : hOk 6 s 1 = true) :
 Calls Tryz.prog 44 #[.int .i64 6, .int .i64 s] w fun e w' => ∃ v', e = .returned v' /\ zaz w.heap.size w'.heap.size 3 w' v' N N (fun i => .int .i64 (5 + 2 * i)) /\ Below w.heap.size w w' := by
 obtain ⟨i0, hi, hz0, hz1, hz2⟩ := info_parts zge
 go_enter Tryz.func44, Tryz.ntmps44
 go_wp2_with (go_at_call 99; refine (zaw _ _ _ _).mono ?_; rintro e w1 ⟨rfl, hb⟩)
 obtain ⟨hE, hB⟩ := zcv 5 hb
 clear hb
 go_loopw [5, 8] (fun v i wr => ∃ m : Nat, m <= N /\ i = .int .i64 (5 + 2 * m) /\ wr.ownsRow w.heap.size 3 1 v m (gat 5 m) /\ Below w.heap.size w wr) (fun _ i _ => 2 * N + 5 - (intOf i).toNat)
 case atStart => exact ⟨0, Nat.zero_le _, rfl, hE, hB⟩
 case round =>
  clear hE hB
  obtain ⟨m, hm, rfl, hown, hF⟩ := hrel
  by_cases hlt : m < N
  · have h1 : (5 : Int) + 2 * m < s := (hN m).2 hlt
    go_wp2_with (at_builtin; refine wpList_append_own _ rfl _ _ 64 rfl w.heap.size 3 i0 (.int .i64 0) 1 8 Tryz.underlying64 hi hz0 hz1 hz2 rfl (by decide) _ m (gat 5 m) rfl (hown.alloc _) ⟨wr.heap.size, 0, none⟩ 1 1 [.int .i64 (5 + 2 * m)] rfl rfl (cell_one_new _ _ _) (ints_oneCell .i64 [5 + 2 * m]) (by unfold maxLen; omega) (by omega) (by have := hF.size; simp; omega) ?_)
    intro v' w2 hown' hgrow _
    have R := zfy (by have := hF.size; omega) hown hF hown' hgrow
    clear hown' hgrow hown hF
    go_wp2
    go_roundw
    case rel => exact ⟨m + 1, by omega, by go_num, R.1, R.2⟩
    case measure => simp [intOf]; omega
  · have h1 : ¬ (5 : Int) + 2 * m < s := fun h => hlt ((hN m).1 h)
    obtain rfl : m = N := by omega
    go_wp2
    go_ret
    exact ⟨_, rfl, zfu hown, hF⟩
theorem zwq {k s : Int} (h : sOk k s = false) (n : Int) : hOk k s n = false := zmm n h
theorem zhl (k s : Int) (w : World) :
 Calls Tryz.prog 44 #[.int .i64 k, .int .i64 s] w fun e w' => ∃ v', e = .returned v' /\ zaz w.heap.size w'.heap.size 3 w' v' (slN k s) (slN k s) (fun i => .int .i64 (fs k + 2 * i)) /\ Below w.heap.size w w' := by
 by_cases hs : sOk k s = true
 · have h1 := zff hs
   have h2 := zjz k s
   have h3 := zwp hs
   rcases zbe hs with ⟨rfl, _⟩ | ⟨rfl, _⟩ | ⟨rfl, _⟩ | ⟨rfl, _⟩ | ⟨rfl, _⟩ | ⟨rfl, _⟩
   · exact zq0 s _ w hs h1 (by omega) (by omega) h2 h3
   · exact zq1 s _ w hs h1 (by omega) (by omega) h2 h3
   · exact zq2 s _ w hs h1 (by omega) (by omega) h2 h3
   · exact zq3 s _ w hs h1 (by omega) (by omega) h2 h3
   · exact zq4 s _ w hs h1 (by omega) (by omega) h2 h3
   · exact zq5 s _ w hs h1 (by omega) (by omega) h2 h3
 · have h0 : slN k s = 0 := by simp [slN, hs]
   rw [Bool.not_eq_true] at hs
   rw [h0]
   have hh := zwq hs
   by_cases e2 : k = 2
   · subst e2
     go_enter Tryz.func44, Tryz.ntmps44
     go_wp2_with (go_at_call 99; refine (zaw _ _ _ _).mono ?_; rintro e w1 ⟨rfl, hb⟩; obtain ⟨hE, hB⟩ := zcv 0 hb; clear hb)
     go_ret
     exact ⟨_, rfl, ⟨_, _, rfl, .inl rfl⟩, hB⟩
   by_cases e4 : k = 4
   · subst e4
     go_enter Tryz.func44, Tryz.ntmps44
     go_wp2_with (go_at_call 99; refine (zaw _ _ _ _).mono ?_; rintro e w1 ⟨rfl, hb⟩; obtain ⟨hE, hB⟩ := zcv 0 hb; clear hb)
     go_ret
     exact ⟨_, rfl, ⟨_, _, rfl, .inl rfl⟩, hB⟩
   by_cases e6 : k = 6
   · subst e6
     go_enter Tryz.func44, Tryz.ntmps44
     go_wp2_with (go_at_call 99; refine (zaw _ _ _ _).mono ?_; rintro e w1 ⟨rfl, hb⟩; obtain ⟨hE, hB⟩ := zcv 0 hb; clear hb)
     go_ret
     exact ⟨_, rfl, ⟨_, _, rfl, .inl rfl⟩, hB⟩
   have f2 : (k == 2) = false := by simpa using e2
   have f4 : (k == 4) = false := by simpa using e4
   have f6 : (k == 6) = false := by simpa using e6
   go_enter Tryz.func44, Tryz.ntmps44
   go_wp2_with (go_at_call 99; refine (zaw _ _ _ _).mono ?_; rintro e w1 ⟨rfl, hb⟩; obtain ⟨hE, hB⟩ := zcv 0 hb; clear hb)
   go_ret
   exact ⟨_, rfl, ⟨_, _, rfl, .inl rfl⟩, hB⟩
end Go.Proofs.YtmckcnmlhgpnhaaGreat
