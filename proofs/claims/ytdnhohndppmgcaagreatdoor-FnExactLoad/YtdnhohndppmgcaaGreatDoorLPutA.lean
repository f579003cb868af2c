/- - -/
import Derived.Test.YtdnhohndppmgcaaGreatDoorLGetA
import Derived.Laws.CopyOwn
import Derived.Deep.AppendSrc
namespace Go.Proofs.YtdnhohndppmgcaaGreatDoor
set_option maxRecDepth 20000
open Go.RowKit
set_option linter.unusedSimpArgs false
set_option linter.unusedVariables false
def cellsOf (zs : List Int) : List Value := zs.map (Value.int .u64)
theorem zdi (zs : List Int) : (cellsOf zs).length = zs.length := by simp [cellsOf]
theorem zit (zs : List Int) : ∀ u ∈ cellsOf zs, u.oneCell' = true := by
 intro u hu
 obtain ⟨z, _, rfl⟩ := List.mem_map.1 hu
 rfl
theorem zjq {zs : List Int} {j : Nat} {u : Value} (h : (cellsOf zs)[j]? = some u) : j < zs.length /\ u = .int .u64 (zs.getD j 0) := by
 unfold cellsOf at h
 rw [List.getElem?_map] at h
 by_cases hj : j < zs.length
 · rw [List.getElem?_eq_getElem hj] at h
   simp at h
   exact ⟨hj, by simp [hj, <- h]⟩
 · rw [List.getElem?_eq_none (by omega)] at h
   simp at h
theorem zqc {α : Type} (L cs : List α) (h : cs.length = L.length) : splice L 0 cs = cs := by
 simp [splice, h]
theorem zma {w : World} {b : Nat} {zs : List Int} (h : w.heap[b]? = some (.cells (cellsOf zs).toArray 77 (0, 0))) : w.rowIs b 77 zs.length (fun i => .int .u64 (zs.getD i 0)) := by
 refine ⟨_, h, by simp [cellsOf], fun i hi => ?_⟩
 simp [cellsOf, hi]
theorem zkq (v : Value) (zs : List Int) (w : World) (hs : Sl w v zs) (hn : zs.length <= 1048576) :
 Calls Tryz.prog 100 #[v] w fun e w' => ∃ v', e = .returned v' /\ (∃ a', v' = .slice a' zs.length zs.length) /\ Own w.heap.size w' v' zs /\ Below w.heap.size w w' := by
 obtain ⟨a, cap, rfl, hs⟩ := hs
 have hm1 := fun (w : World) => run_make_row' (P := Tryz.prog) 22 77 (.int .u64 0) 8 Tryz.underlying22 zme rfl .i64 .i64 zs.length (by omega) (by omega) w
 have hn' : (zs.length : Int) <= 1048576 := by omega
 have hml : (madeCells #[Value.int .u64 0] zs.length).toList.length = zs.length := by rw [Array.length_toList, size_madeCells]
 go_enter Tryz.func100, Tryz.ntmps100
 go_wp2_with (refine wpList_copy_splice rfl (.tmp 7) (.tmp 8) 22 22 rfl 77 Tryz.underlying22 (by kernel_rfl) (some ⟨w.heap.size, 0, none⟩) a zs.length zs.length zs.length cap rfl rfl w.heap.size 0 (madeCells #[Value.int .u64 0] zs.length).toList 77 ?hg (cellsOf zs) ?hn ?hpos ?hfit (zit zs) w.heap.size w ?hb (Nat.le_refl _) ?_)
 case hg => rw [Array.toArray_toList]; exact Go.Deep.blk_alloc_new _ _
 case hn => rw [zdi]; simp
 case hpos =>
  intro h0
  rw [zdi] at h0
  rcases hs with rfl | ⟨b, off, rfl, hl, hc⟩
  · simp at h0
  · refine ⟨_, rfl, fun j u hj => ?_⟩
    obtain ⟨hj1, rfl⟩ := zjq hj
    rw [Addr.add_lit]
    exact zu hl (hc j hj1)
 case hfit => rw [zdi, hml]; omega
 case hb => exact (Below.refl _ _).alloc (Nat.le_refl _) _
 intro w2 HG hB2
 have hrow := HG.out
 rw [zqc _ _ (by rw [zdi, hml])] at hrow
 have hown : Own w.heap.size w2 (.slice (some ⟨w.heap.size, 0, none⟩) zs.length zs.length) zs :=
  ⟨_, _, rfl, .inr ⟨w.heap.size, zs.length, _, rfl, Nat.le_refl _, Nat.le_refl _, zma hrow, fun _ _ => rfl⟩⟩
 clear HG hrow
 go_wp2
 go_ret
 exact ⟨_, rfl, ⟨_, rfl⟩, hown, hB2⟩
theorem zol {B : Nat} {w : World} {v : Value} {zs : List Int} (h : w.ownsRow B 77 1 v zs.length (cellsOf zs)) : Own B w v zs := by
 obtain ⟨_, ⟨rfl, h0⟩ | ⟨g, cap, cur, rfl, hB, hg, hle, _, hcs, htk⟩⟩ := h
 · have : zs = [] := List.eq_nil_of_length_eq_zero h0
   subst this
   exact ⟨none, 0, rfl, .inl rfl⟩
 · refine ⟨_, cap, rfl, .inr ⟨g, cap, fun i => cur.getD i (.bool false), rfl, hB, hle, ⟨cur, hg, by omega, fun i hi => ?_⟩, fun i hi => ?_⟩⟩
   · simp [Array.getD, show i < cur.size by omega]
   · have h1 : (cur.toList.take (zs.length * 1))[i]? = (cellsOf zs)[i]? := by rw [htk]
     rw [List.getElem?_take] at h1
     simp [cellsOf, hi] at h1
     simp [Array.getD, show i < cur.size by omega, hi]
     have h2 := h1
     rw [Array.getElem?_eq_getElem (by omega)] at h2
     simpa using h2
theorem zom (v : Value) (zs : List Int) (w : World) (hs : Sl w v zs) (hn : zs.length <= 1048576) :
 Calls Tryz.prog 63 #[v] w fun e w' => ∃ v', e = .returned v' /\ Own w.heap.size w' v' zs /\ Below w.heap.size w w' := by
 obtain ⟨a, cap, rfl, hs⟩ := hs
 have hn' : (zs.length : Int) <= 1048576 := by omega
 obtain ⟨i0, hi, hz0, hz1, hz2⟩ := info_parts zme
 cases a with
 | none =>
   have h0 : zs = [] := by
    rcases hs with h | ⟨b, off, h, _⟩
    · exact h
    · simp at h
   subst h0
   go_enter Tryz.func63, Tryz.ntmps63
   go_wp2
   go_ret
   exact ⟨_, rfl, ⟨_, 0, rfl, .inl rfl⟩, (Below.refl _ _).alloc (Nat.le_refl _) _⟩
 | some ad =>
   go_enter Tryz.func63, Tryz.ntmps63
   go_wp2_with (at_builtin; refine wpList_append_own _ rfl _ _ 22 rfl w.heap.size 77 i0 (.int .u64 0) 1 8 Tryz.underlying22 hi hz0 hz1 hz2 rfl (by decide) (.slice (some ⟨w.heap.size, 0, none⟩) 0 0) 0 [] rfl ?hown ad zs.length cap (cellsOf zs) rfl ?hl ?hnews (zit zs) ?h63 ?hby ?hbase ?_)
   case hown => exact ⟨rfl, .inr ⟨w.heap.size, 0, #[], rfl, Nat.le_refl _, Go.Deep.blk_alloc_new _ _, Nat.le_refl _, by simp [maxLen], rfl, rfl⟩⟩
   case hl => rw [zdi, Nat.mul_one]
   case hnews =>
    intro j u hj
    obtain ⟨hj1, rfl⟩ := zjq hj
    rcases hs with rfl | ⟨b, off, he, hl, hc⟩
    · simp at hj1
    · simp at he
      subst he
      rw [Addr.add_lit]
      exact zu hl (hc j hj1)
   case h63 => unfold maxLen; omega
   case hby => omega
   case hbase => simp
   intro v' w2 hown' hgrow _
   have hown := zol hown'
   have hbel : Below w.heap.size w w2 := ((Below.refl _ _).alloc (Nat.le_refl _) _).grown hgrow (by simp) (fun k hk => by simp [Value.ownBlock] at hk; omega)
   clear hown' hgrow
   go_wp2
   go_ret
   exact ⟨_, rfl, hown, hbel⟩
theorem Own.parts {B : Nat} {w : World} {v : Value} {zs : List Int} (h : Own B w v zs) {k : Nat} (hk : k < zs.length) :
 ∃ b n cap f, v = .slice (some ⟨b, 0, none⟩) zs.length cap /\ B <= b /\ zs.length <= n /\ w.rowIs b 77 n f /\ ∀ i, i < zs.length -> f i = .int .u64 (zs.getD i 0) := by
 obtain ⟨a, cap, rfl, h⟩ := h
 rcases h with rfl | ⟨b, n, f, rfl, r⟩
 · simp at hk
 · exact ⟨b, n, cap, f, rfl, r⟩
theorem zon {w : World} {b c k o : Nat} (h : b ≠ c) (u : Value) : (w.setCell ⟨b, k, none⟩ u).cell? ⟨c, o, none⟩ = w.cell? ⟨c, o, none⟩ :=
 World.cell?_setCell_other _ _ _ _ (fun e => h (congrArg Addr.block e))
theorem zqd (b n cap k len : Nat) (f : Nat -> Value) (t m : Int) (w : World) (hr : w.rowIs b 77 n f) (hk : k + 1 < len) (hn : len <= n) (hn' : len <= 1048576) :
 Calls Tryz.prog 136 #[.slice (some ⟨b, 0, none⟩) len cap, .int .i64 k, .agg #[.int .i64 t, .int .i64 m]] w fun e w' => e = .returned (.tuple #[]) /\ w' = ((w.setCell ⟨b, k, none⟩ (.int .u64 (IntKind.u64.wrap t))).setCell ⟨b, k + 1, none⟩ (.int .u64 (IntKind.u64.wrap m))).alloc (.cells #[.int .i64 t, .int .i64 m] 57) := by
 have hb := hr.lt
 have hne : b ≠ w.heap.size := by omega
 have hk' : (k : Int) + 1 < (len : Int) := by omega
 have hk0 : (k : Int) < (len : Int) := by omega
 have hl' : (len : Int) <= 1048576 := by omega
 have hr2 : (w.alloc (.cells #[.int .i64 t, .int .i64 m] 57)).rowIs b 77 n f := hr.of_block (((Below.refl w.heap.size w).alloc (Nat.le_refl _) _).block b hb)
 have q1 := hr.cell (i := k) (by omega)
 have q2 := hr.cell (i := k + 1) (by omega)
 have q3 := hr.frozen k
 have q4 := hr.frozen (k + 1)
 have q1' := hr2.cell (i := k) (by omega)
 have q2' := hr2.cell (i := k + 1) (by omega)
 have q3' := hr2.frozen k
 have q4' := hr2.frozen (k + 1)
 have hne' : ¬ b = w.heap.size := hne
 have q5 := fun u => zon (w := (w.alloc (.cells #[.int .i64 t, .int .i64 m] 57))) (k := k) (o := 1) hne u
 go_enter Tryz.func136, Tryz.ntmps136
 go_wp2
 go_end0
 exact ⟨rfl, rfl⟩
end Go.Proofs.YtdnhohndppmgcaaGreatDoor
