/- - -/
import Derived.Test.YtblcfbhlmdhnpaaGreatBMrE
import Derived.Shelf.Lays2
import Derived.Lib.Walk
import Derived.Lib.SliceRun
namespace Go.Proofs.YtblcfbhlmdhnpaaGreat
set_option maxRecDepth 20000
open Go.RowKit Go.PlainAid
set_option linter.unusedSimpArgs false
set_option linter.unusedVariables false
def zo (m : Nat) (f : Nat -> Value) : List Value := (List.range m).map f
theorem zaf (m : Nat) (f : Nat -> Value) : (zo m f).length = m := by simp [zo]
theorem zax {m : Nat} {f : Nat -> Value} {j : Nat} {u : Value} (h : (zo m f)[j]? = some u) : j < m /\ u = f j := by
 unfold zo at h
 rw [List.getElem?_map] at h
 by_cases hj : j < m
 · rw [List.getElem?_range hj] at h
   simp at h
   exact ⟨hj, h.symm⟩
 · rw [List.getElem?_eq_none (by simp; omega)] at h
   simp at h
theorem zao {m : Nat} {f : Nat -> Value} (h : ∀ i, i < m -> (f i).oneCell' = true) : ∀ u ∈ zo m f, u.oneCell' = true := by
 intro u hu
 obtain ⟨i, hi, rfl⟩ := List.mem_map.1 hu
 exact h i (List.mem_range.1 hi)
theorem RwT.of_owns {ow : Nat -> Nat} {B g es : Nat} {t : TypeId} {w : World} {a : Option Addr} {n k c : Nat} {f : Nat -> Value} (h : w.ownsRow B t es (.slice a k c) n (zo (n * es) f)) (ho : ∀ b o, a = some ⟨b, o, none⟩ -> ow b = g) : RwT ow B g t w a (n * es) f := by
 obtain ⟨_, ⟨_, h0⟩ | ⟨b, cap, cur, hv, hB, hg, hle, _, hcs, htk⟩⟩ := h
 · subst h0
   exact .inl (Nat.zero_mul _)
 · simp only [Value.slice.injEq] at hv
   obtain ⟨rfl, rfl, rfl⟩ := hv
   have hm : k * es <= c * es := Nat.mul_le_mul_right _ hle
   refine .inr ⟨b, c * es, fun i => cur.getD i (.bool false), rfl, ho _ _ rfl, hB, hm, ⟨cur, hg, by omega, fun i hi => by simp [Array.getD, show i < cur.size by omega]⟩, fun i hi => ?_⟩
   have h1 : (cur.toList.take (k * es))[i]? = (zo (k * es) f)[i]? := by rw [htk]
   rw [List.getElem?_take] at h1
   simp [zo, hi] at h1
   simp [Array.getD, show i < cur.size by omega]
   have h2 := h1
   rw [Array.getElem?_eq_getElem (by omega)] at h2
   simpa using h2
theorem zdo : (Tryz.prog.info? 9).map (fun i => (i.zero, i.size, i.bytes)) = some (some (.string ⟨#[]⟩), 1, 16) := by kernel_rfl
set_option maxHeartbeats 1000000 in
theorem zgb (T : Nat) (a : Option Addr) (n c : Nat) (f : Nat -> Value) (w : World) (h : SlF T w (.slice a n c) n (n * 1) f) (h1 : ∀ i, i < n * 1 -> (f i).oneCell' = true) (hn : (n : Int) <= 1048576) :
 Calls Tryz.prog 86 #[.slice a n c] w fun e w' => ∃ a' c', e = .returned (.slice a' n c') /\ w'.ownsRow w.heap.size 9 1 (.slice a' n c') n (zo (n * 1) f) /\ Below w.heap.size w w' := by
 obtain ⟨i0, hi, hz0, hz1, hz2⟩ := info_parts zdo
 have q : ∀ (w : World) (a : Option Addr) (n c n' c' : Nat), (binOp .eql 23 (.slice a n c) (.slice none n' c')).run Tryz.prog w = .ok (.bool a.isNone) w := fun w a n c n' c' => Go.Lib.run_eql_slice_nil w _ _ a n c n' c' Tryz.underlying23
 have HS : Hid (SlF T w (.slice a n c) n (n * 1) f) := h
 have H1 : Hid (∀ i, i < n * 1 -> (f i).oneCell' = true) := h1
 cases a with
 | none =>
   have h0 : n = 0 := by
    obtain ⟨a, cap, he, hx⟩ := h
    simp only [Value.slice.injEq] at he
    obtain ⟨rfl, _⟩ := he
    rcases hx with hx | ⟨b, off, hx, _⟩
    · omega
    · simp at hx
   subst h0
   clear h h1
   go_enter Tryz.func86, Tryz.ntmps86
   go_wp2
   go_ret
   exact ⟨_, _, rfl, ⟨rfl, .inl ⟨rfl, rfl⟩⟩, Below.refl _ _⟩
 | some ad =>
   clear h h1
   go_enter Tryz.func86, Tryz.ntmps86
   go_wp2_with (at_builtin; refine wpList_append_own _ rfl _ _ 23 rfl w.heap.size 9 i0 (.string ⟨#[]⟩) 1 16 Tryz.underlying23 hi hz0 hz1 hz2 rfl (by decide) (.slice (some ⟨w.heap.size, 0, none⟩) 0 0) 0 [] rfl ?hown ad n c (zo (n * 1) f) rfl (zaf _ _) ?hnews (zao H1.out) ?h63 ?hby ?hbase ?_)
   case hown => exact ⟨rfl, .inr ⟨w.heap.size, 0, #[], rfl, Nat.le_refl _, Go.Deep.blk_alloc_new _ _, Nat.le_refl _, by simp [maxLen], rfl, rfl⟩⟩
   case hnews =>
    intro j u hj
    obtain ⟨hj1, rfl⟩ := zax hj
    obtain ⟨b, off, cap', hv, _, lb, hc⟩ := HS.out.parts (k := 0) (by omega)
    simp only [Value.slice.injEq, Option.some.injEq] at hv
    obtain ⟨rfl, _, rfl⟩ := hv
    rw [Addr.add_lit]
    exact Go.Lib.cell?_alloc_some _ (hc j (by omega))
   case h63 => unfold maxLen; omega
   case hby => omega
   case hbase => simp
   intro v2 w2 hown' hgrow _
   have B2 : Below w.heap.size w w2 := ((Below.refl _ w).alloc (Nat.le_refl _) _).grown hgrow (by simp) (by intro k hk; simp [Value.ownBlock] at hk; omega)
   obtain ⟨a2, c2, rfl⟩ : ∃ a2 c2, v2 = .slice a2 n c2 := by
    obtain ⟨_, ⟨rfl, rfl⟩ | ⟨g, cap, cur, rfl, _⟩⟩ := hown'
    · exact ⟨_, _, rfl⟩
    · exact ⟨_, _, rfl⟩
   go_wp2
   go_ret
   exact ⟨_, _, rfl, by first | exact hown' | (rw [Nat.mul_one]; exact hown'), B2⟩
theorem zdp : (Tryz.prog.info? 58).map (fun i => (i.zero, i.size, i.bytes)) = some (some (.agg #[.int .i64 0, .int .i64 0, .slice none 0 0, .slice none 0 0]), 4, 64) := by kernel_rfl
set_option maxHeartbeats 1000000 in
theorem zgc (T : Nat) (a : Option Addr) (n c : Nat) (f : Nat -> Value) (w : World) (h : SlF T w (.slice a n c) n (n * 4) f) (h1 : ∀ i, i < n * 4 -> (f i).oneCell' = true) (hn : (n : Int) <= 1048576) :
 Calls Tryz.prog 55 #[.slice a n c] w fun e w' => ∃ a' c', e = .returned (.slice a' n c') /\ w'.ownsRow w.heap.size 58 4 (.slice a' n c') n (zo (n * 4) f) /\ Below w.heap.size w w' := by
 obtain ⟨i0, hi, hz0, hz1, hz2⟩ := info_parts zdp
 have q : ∀ (w : World) (a : Option Addr) (n c n' c' : Nat), (binOp .eql 27 (.slice a n c) (.slice none n' c')).run Tryz.prog w = .ok (.bool a.isNone) w := fun w a n c n' c' => Go.Lib.run_eql_slice_nil w _ _ a n c n' c' Tryz.underlying27
 have HS : Hid (SlF T w (.slice a n c) n (n * 4) f) := h
 have H1 : Hid (∀ i, i < n * 4 -> (f i).oneCell' = true) := h1
 cases a with
 | none =>
   have h0 : n = 0 := by
    obtain ⟨a, cap, he, hx⟩ := h
    simp only [Value.slice.injEq] at he
    obtain ⟨rfl, _⟩ := he
    rcases hx with hx | ⟨b, off, hx, _⟩
    · omega
    · simp at hx
   subst h0
   clear h h1
   go_enter Tryz.func55, Tryz.ntmps55
   go_wp2
   go_ret
   exact ⟨_, _, rfl, ⟨rfl, .inl ⟨rfl, rfl⟩⟩, Below.refl _ _⟩
 | some ad =>
   clear h h1
   go_enter Tryz.func55, Tryz.ntmps55
   go_wp2_with (at_builtin; refine wpList_append_own _ rfl _ _ 27 rfl w.heap.size 58 i0 (.agg #[.int .i64 0, .int .i64 0, .slice none 0 0, .slice none 0 0]) 4 64 Tryz.underlying27 hi hz0 hz1 hz2 rfl (by decide) (.slice (some ⟨w.heap.size, 0, none⟩) 0 0) 0 [] rfl ?hown ad n c (zo (n * 4) f) rfl (zaf _ _) ?hnews (zao H1.out) ?h63 ?hby ?hbase ?_)
   case hown => exact ⟨rfl, .inr ⟨w.heap.size, 0, #[], rfl, Nat.le_refl _, Go.Deep.blk_alloc_new _ _, Nat.le_refl _, by simp [maxLen], rfl, rfl⟩⟩
   case hnews =>
    intro j u hj
    obtain ⟨hj1, rfl⟩ := zax hj
    obtain ⟨b, off, cap', hv, _, lb, hc⟩ := HS.out.parts (k := 0) (by omega)
    simp only [Value.slice.injEq, Option.some.injEq] at hv
    obtain ⟨rfl, _, rfl⟩ := hv
    rw [Addr.add_lit]
    exact Go.Lib.cell?_alloc_some _ (hc j (by omega))
   case h63 => unfold maxLen; omega
   case hby => omega
   case hbase => simp
   intro v2 w2 hown' hgrow _
   have B2 : Below w.heap.size w w2 := ((Below.refl _ w).alloc (Nat.le_refl _) _).grown hgrow (by simp) (by intro k hk; simp [Value.ownBlock] at hk; omega)
   obtain ⟨a2, c2, rfl⟩ : ∃ a2 c2, v2 = .slice a2 n c2 := by
    obtain ⟨_, ⟨rfl, rfl⟩ | ⟨g, cap, cur, rfl, _⟩⟩ := hown'
    · exact ⟨_, _, rfl⟩
    · exact ⟨_, _, rfl⟩
   go_wp2
   go_ret
   exact ⟨_, _, rfl, by first | exact hown' | (rw [Nat.mul_one]; exact hown'), B2⟩
theorem zee : (Tryz.prog.info? 99).map (fun i => (i.zero, i.size, i.bytes)) = some (some (.agg #[.bool false, .int .i64 0]), 2, 16) := by kernel_rfl
set_option maxHeartbeats 1000000 in
theorem zgz (T : Nat) (a : Option Addr) (n c : Nat) (f : Nat -> Value) (w : World) (h : SlF T w (.slice a n c) n (n * 2) f) (h1 : ∀ i, i < n * 2 -> (f i).oneCell' = true) (hn : (n : Int) <= 1048576) :
 Calls Tryz.prog 56 #[.slice a n c] w fun e w' => ∃ a' c', e = .returned (.slice a' n c') /\ w'.ownsRow w.heap.size 99 2 (.slice a' n c') n (zo (n * 2) f) /\ Below w.heap.size w w' := by
 obtain ⟨i0, hi, hz0, hz1, hz2⟩ := info_parts zee
 have q : ∀ (w : World) (a : Option Addr) (n c n' c' : Nat), (binOp .eql 55 (.slice a n c) (.slice none n' c')).run Tryz.prog w = .ok (.bool a.isNone) w := fun w a n c n' c' => Go.Lib.run_eql_slice_nil w _ _ a n c n' c' Tryz.underlying55
 have HS : Hid (SlF T w (.slice a n c) n (n * 2) f) := h
 have H1 : Hid (∀ i, i < n * 2 -> (f i).oneCell' = true) := h1
 cases a with
 | none =>
   have h0 : n = 0 := by
    obtain ⟨a, cap, he, hx⟩ := h
    simp only [Value.slice.injEq] at he
    obtain ⟨rfl, _⟩ := he
    rcases hx with hx | ⟨b, off, hx, _⟩
    · omega
    · simp at hx
   subst h0
   clear h h1
   go_enter Tryz.func56, Tryz.ntmps56
   go_wp2
   go_ret
   exact ⟨_, _, rfl, ⟨rfl, .inl ⟨rfl, rfl⟩⟩, Below.refl _ _⟩
 | some ad =>
   clear h h1
   go_enter Tryz.func56, Tryz.ntmps56
   go_wp2_with (at_builtin; refine wpList_append_own _ rfl _ _ 55 rfl w.heap.size 99 i0 (.agg #[.bool false, .int .i64 0]) 2 16 Tryz.underlying55 hi hz0 hz1 hz2 rfl (by decide) (.slice (some ⟨w.heap.size, 0, none⟩) 0 0) 0 [] rfl ?hown ad n c (zo (n * 2) f) rfl (zaf _ _) ?hnews (zao H1.out) ?h63 ?hby ?hbase ?_)
   case hown => exact ⟨rfl, .inr ⟨w.heap.size, 0, #[], rfl, Nat.le_refl _, Go.Deep.blk_alloc_new _ _, Nat.le_refl _, by simp [maxLen], rfl, rfl⟩⟩
   case hnews =>
    intro j u hj
    obtain ⟨hj1, rfl⟩ := zax hj
    obtain ⟨b, off, cap', hv, _, lb, hc⟩ := HS.out.parts (k := 0) (by omega)
    simp only [Value.slice.injEq, Option.some.injEq] at hv
    obtain ⟨rfl, _, rfl⟩ := hv
    rw [Addr.add_lit]
    exact Go.Lib.cell?_alloc_some _ (hc j (by omega))
   case h63 => unfold maxLen; omega
   case hby => omega
   case hbase => simp
   intro v2 w2 hown' hgrow _
   have B2 : Below w.heap.size w w2 := ((Below.refl _ w).alloc (Nat.le_refl _) _).grown hgrow (by simp) (by intro k hk; simp [Value.ownBlock] at hk; omega)
   obtain ⟨a2, c2, rfl⟩ : ∃ a2 c2, v2 = .slice a2 n c2 := by
    obtain ⟨_, ⟨rfl, rfl⟩ | ⟨g, cap, cur, rfl, _⟩⟩ := hown'
    · exact ⟨_, _, rfl⟩
    · exact ⟨_, _, rfl⟩
   go_wp2
   go_ret
   exact ⟨_, _, rfl, by first | exact hown' | (rw [Nat.mul_one]; exact hown'), B2⟩
theorem zdq : (Tryz.prog.info? 80).map (fun i => (i.zero, i.size, i.bytes)) = some (some (.agg #[.int .i64 0, .int .i64 0]), 2, 16) := by kernel_rfl
set_option maxHeartbeats 1000000 in
theorem zgd (T : Nat) (a : Option Addr) (n c : Nat) (f : Nat -> Value) (w : World) (h : SlF T w (.slice a n c) n (n * 2) f) (h1 : ∀ i, i < n * 2 -> (f i).oneCell' = true) (hn : (n : Int) <= 1048576) :
 Calls Tryz.prog 57 #[.slice a n c] w fun e w' => ∃ a' c', e = .returned (.slice a' n c') /\ w'.ownsRow w.heap.size 80 2 (.slice a' n c') n (zo (n * 2) f) /\ Below w.heap.size w w' := by
 obtain ⟨i0, hi, hz0, hz1, hz2⟩ := info_parts zdq
 have q : ∀ (w : World) (a : Option Addr) (n c n' c' : Nat), (binOp .eql 56 (.slice a n c) (.slice none n' c')).run Tryz.prog w = .ok (.bool a.isNone) w := fun w a n c n' c' => Go.Lib.run_eql_slice_nil w _ _ a n c n' c' Tryz.underlying56
 have HS : Hid (SlF T w (.slice a n c) n (n * 2) f) := h
 have H1 : Hid (∀ i, i < n * 2 -> (f i).oneCell' = true) := h1
 cases a with
 | none =>
   have h0 : n = 0 := by
    obtain ⟨a, cap, he, hx⟩ := h
    simp only [Value.slice.injEq] at he
    obtain ⟨rfl, _⟩ := he
    rcases hx with hx | ⟨b, off, hx, _⟩
    · omega
    · simp at hx
   subst h0
   clear h h1
   go_enter Tryz.func57, Tryz.ntmps57
   go_wp2
   go_ret
   exact ⟨_, _, rfl, ⟨rfl, .inl ⟨rfl, rfl⟩⟩, Below.refl _ _⟩
 | some ad =>
   clear h h1
   go_enter Tryz.func57, Tryz.ntmps57
   go_wp2_with (at_builtin; refine wpList_append_own _ rfl _ _ 56 rfl w.heap.size 80 i0 (.agg #[.int .i64 0, .int .i64 0]) 2 16 Tryz.underlying56 hi hz0 hz1 hz2 rfl (by decide) (.slice (some ⟨w.heap.size, 0, none⟩) 0 0) 0 [] rfl ?hown ad n c (zo (n * 2) f) rfl (zaf _ _) ?hnews (zao H1.out) ?h63 ?hby ?hbase ?_)
   case hown => exact ⟨rfl, .inr ⟨w.heap.size, 0, #[], rfl, Nat.le_refl _, Go.Deep.blk_alloc_new _ _, Nat.le_refl _, by simp [maxLen], rfl, rfl⟩⟩
   case hnews =>
    intro j u hj
    obtain ⟨hj1, rfl⟩ := zax hj
    obtain ⟨b, off, cap', hv, _, lb, hc⟩ := HS.out.parts (k := 0) (by omega)
    simp only [Value.slice.injEq, Option.some.injEq] at hv
    obtain ⟨rfl, _, rfl⟩ := hv
    rw [Addr.add_lit]
    exact Go.Lib.cell?_alloc_some _ (hc j (by omega))
   case h63 => unfold maxLen; omega
   case hby => omega
   case hbase => simp
   intro v2 w2 hown' hgrow _
   have B2 : Below w.heap.size w w2 := ((Below.refl _ w).alloc (Nat.le_refl _) _).grown hgrow (by simp) (by intro k hk; simp [Value.ownBlock] at hk; omega)
   obtain ⟨a2, c2, rfl⟩ : ∃ a2 c2, v2 = .slice a2 n c2 := by
    obtain ⟨_, ⟨rfl, rfl⟩ | ⟨g, cap, cur, rfl, _⟩⟩ := hown'
    · exact ⟨_, _, rfl⟩
    · exact ⟨_, _, rfl⟩
   go_wp2
   go_ret
   exact ⟨_, _, rfl, by first | exact hown' | (rw [Nat.mul_one]; exact hown'), B2⟩
end Go.Proofs.YtblcfbhlmdhnpaaGreat
