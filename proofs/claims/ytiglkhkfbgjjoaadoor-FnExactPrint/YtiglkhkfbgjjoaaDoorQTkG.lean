/- - -/
import Derived.Test.YtiglkhkfbgjjoaaDoorQTkF
namespace Go.Proofs.YtiglkhkfbgjjoaaDoor
set_option maxRecDepth 20000
open Go.RowKit Go.PlainAid Go.Maps
set_option linter.unusedSimpArgs false
set_option linter.unusedVariables false
theorem zhc : (Tryd.prog.info? 4).map (fun i => (i.zero, i.size, i.bytes)) = some (some (.bool false), 1, 1) := by kernel_rfl
theorem zga (l : Int) (h0 : 0 <= l) (h1 : l <= 1048576) (w : World) : (Instr.makeSlice 108 (.int .i64 l) (.int .i64 l)).run Tryd.prog w = .ok (.slice (some ⟨w.heap.size, 0, none⟩) l.toNat l.toNat) (w.alloc (.cells (madeCells #[.bool false] l.toNat) 4)) := by
 obtain ⟨i, hi, hzz⟩ := Option.map_eq_some_iff.1 zhc
 simp only [Prod.mk.injEq] at hzz
 obtain ⟨hz, hs, hb⟩ := hzz
 have := run_make (P := Tryd.prog) w 108 4 i _ Tryd.underlying108 hi hz .i64 .i64 l l h0 (Int.le_refl _) (by rw [hb]; omega) (by omega)
 rw [hs, Nat.mul_one] at this
 exact this
set_option maxHeartbeats 12000000 in
theorem zdt (a : Option Addr) (c L : Nat) (top : Int) (X : Nat -> KnD) (T : Nat) (w : World) (hs : KnF T w (.slice a L c) L X) (hT : T <= w.heap.size) (hL : L <= 1048576) (hX : ∀ j, j < L -> (X j).len <= 1048576 /\ (X j).t.size <= 1048576) :
 Calls Tryd.prog 35 #[.agg #[.slice a L c, .int .i64 top]] w fun e w' => ∃ q, e = .returned (.bool q) /\ (q = true ↔ TOK X L top) /\ Below w.heap.size w w' := by
 have hL1 : (L : Int) <= 1048576 := by omega
 by_cases h3 : 3000 < L
 · have h3' : (3000 : Int) < (L : Int) := by omega
   have HN : Hid (¬ TOK X L top) := fun h => by have := h.1; omega
   clear hs hX
   go_enter Tryd.func35, Tryd.ntmps35
   go_wp2
   go_ret
   exact ⟨false, rfl, ⟨fun h => (by cases h), fun h => absurd h HN.out⟩, (Below.refl _ _).alloc (Nat.le_refl _) _⟩
 have h3' : ¬ (3000 : Int) < (L : Int) := by omega
 have hm1 := zga (L : Int) (by omega) (by omega)
 rw [Int.toNat_natCast] at hm1
 have HF : Hid (∀ W : World, Below w.heap.size w W -> w.heap.size + 1 < W.heap.size -> W.rowIs (w.heap.size + 1) 4 L (fun _ => .bool false) -> Calls Tryd.prog 76 #[.agg #[.slice a L c, .int .i64 top], .int .i64 top, .int .i64 3, .int .i64 0, .slice (some ⟨w.heap.size + 1, 0, none⟩) L L] W (zc1 X L (w.heap.size + 1) top 3 0 (fun _ => false) W)) := fun W hW hz hr =>
  zii a c L top X T (w.heap.size + 1) L (by omega) hX (by omega) (top.toNat + 1) top 3 0 (fun _ => false) W (by omega) (hs.below hW hT) hz hr (fun j _ => by simp) (by omega)
 have HB : Hid (∀ A B : Obj, Below w.heap.size w ((w.alloc A).alloc B).drew) := fun A B => (((Below.refl _ _).alloc (Nat.le_refl _) _).alloc (by simp) _).drew
 have HR : Hid (∀ A : Obj, ((w.alloc A).alloc (.cells (madeCells #[.bool false] L) 4)).drew.rowIs (w.heap.size + 1) 4 L (fun _ => .bool false)) := fun A => by
  have h := World.rowIs_made (w.alloc A) (.bool false) L 4
  have e : (w.alloc A).heap.size = w.heap.size + 1 := by simp
  rw [e] at h
  exact h.of_block rfl
 have HZ : Hid (∀ A B : Obj, w.heap.size + 1 < ((w.alloc A).alloc B).drew.heap.size) := fun A B => by simp
 clear hs hX
 go_enter Tryd.func35, Tryd.ntmps35
 go_wp2_with fail
 go_region_with (go_at_call 76; refine (HF.out _ (HB.out _ _) (HZ.out _ _) (HR.out _)).mono ?_; rintro e w6 ⟨r, q, rfl, hq, hr, g6⟩; have g7 : Hid (Below w.heap.size w w6) := (HB.out _ _).trans ((zbi g6 (by simp)).mono (by omega)); have t6 : w6.cell? ⟨w.heap.size, 0, none⟩ = some (.slice a L c) := (by rw [World.cell?_of_block (g6.block w.heap.size (by simp; omega) (fun e => by injection e; omega))]; simp [go_sem]); clear g6)
 all_goals
  have HY : Hid ((q && (r == (L : Int))) = true ↔ TOK X L top) := by
   show _ ↔ _
   rw [Bool.and_eq_true, beq_iff_eq]
   constructor
   · rintro ⟨h1, h2⟩
     have h4 := (hr h1).1
     exact ⟨by omega, hq.1 h1, by omega⟩
   · intro h
     have h1 := hq.2 h.2.1
     have h4 := (hr h1).1
     have := h.2.2
     exact ⟨h1, by omega⟩
  clear hq hr HF HB HR HZ hm1
  go_wp2
  all_goals
   go_ret
   refine ⟨_, rfl, ?_, g7.out⟩
   have h9 := HY.out
   clear HY
   first | exact h9 | simpa [*] using h9
end Go.Proofs.YtiglkhkfbgjjoaaDoor
