/- The laws' copy of a Proto, in blocks of its own, and its marks. -/
import Derived.Test.YtpjliclgjplebaaKMdE
import Derived.Test.YtpjliclgjplebaaKMrA
import Derived.Test.YtpjliclgjplebaaKRowF
namespace Go.Proofs.Ytpjliclgjplebaa
set_option maxRecDepth 20000
open Go.RowKit Go.PlainAid
set_option linter.unusedSimpArgs false
set_option linter.unusedVariables false

set_option maxHeartbeats 1000000 in
theorem toProto_tag (pa sl : Int) (au : Option Addr) (un cu : Nat) (ac : Option Addr) (cn cc : Nat) (ub : Nat → Bool) (ui co ca : Nat → Int) (T : Nat) (w : World) (hs : SlF T w (.slice au un cu) un (2 * un) (upF ub ui)) (hs2 : SlF T w (.slice ac cn cc) cn (2 * cn) (inF co ca)) (hT : T ≤ w.heap.size) (hn : un ≤ 1048576) (hn2 : cn ≤ 1048576) :
    Calls Try.prog 7 #[.agg #[.int .i64 pa, .int .i64 sl, .slice au un cu, .slice ac cn cc]] w fun e w' => ∃ b1 b2 : Nat, e = .returned (.agg #[.int .i64 pa, .int .i64 sl, .slice (some ⟨b1, 0, none⟩) un un, .slice (some ⟨b2, 0, none⟩) cn cn]) ∧ w'.rowIs b1 59 (un * 2) (upF ub ui) ∧ w'.rowIs b2 42 (cn * 2) (inF co ca) ∧ w.heap.size ≤ b1 ∧ b1 < b2 ∧ b2 < w'.heap.size ∧ Below w.heap.size w w' := by
  have HS : Hid (SlF T w (.slice au un cu) un (2 * un) (upF ub ui)) := hs
  have HS2 : Hid (SlF T w (.slice ac cn cc) cn (2 * cn) (inF co ca)) := hs2
  clear hs hs2
  go_enter Try.func7, Try.ntmps7
  have B3 : Below w.heap.size w (((w.alloc (.cells #[.int .i64 pa, .int .i64 sl, .slice au un cu, .slice ac cn cc] 25)).alloc (.cells #[.int .i64 0, .int .i64 0, .slice none 0 0, .slice none 0 0] 32)).alloc (.cells #[.int .i64 pa, .int .i64 sl, .slice none 0 0, .slice none 0 0] 32)) := (((Below.refl _ _).alloc (Nat.le_refl _) _).alloc (by simp) _).alloc (by simp; omega) _
  go_wp2_with (first | (go_at_call 18; refine (toUpS_at _ _ _ ub ui _ _ (HS.out.below B3 hT) hn).mono ?_; rintro e w1 ⟨rfl, r1, b1⟩; have c5 := fun i => (bcell b1).1 (w.heap.size + 1 + 1) i (by simp); have c4 := fun i => (bcell b1).1 (w.heap.size + 1) i (by simp); have c3 := fun i => (bcell b1).1 (w.heap.size) i (by simp; omega); have f5 := fun i => (bcell b1).2 (w.heap.size + 1 + 1) i (by simp); have f4 := fun i => (bcell b1).2 (w.heap.size + 1) i (by simp); have hz : w.heap.size + 1 + 1 + 1 < w1.heap.size := (by have := r1.lt; simp at this; omega); have BB : Hid (Below w.heap.size w w1) := B3.trans (b1.mono (by simp; omega)); have R1 : Hid (w1.rowIs (w.heap.size + 1 + 1 + 1) 59 (un * 2) (upF ub ui)) := (by show World.rowIs _ _ _ _ _; simpa using r1); clear r1 b1))
  obtain ⟨W9, hW9⟩ : ∃ W, W = w1.setCell ⟨w.heap.size + 1 + 1, 2, none⟩ (.slice (some ⟨w.heap.size + 1 + 1 + 1, 0, none⟩) un un) := ⟨_, rfl⟩
  have z9 : W9.heap.size = w1.heap.size := by rw [hW9]; simp
  have B9 : Below w.heap.size w W9 := by rw [hW9]; exact BB.out.setCell (by dsimp only; omega) _
  have k2 : ∀ i, W9.cell? ⟨w.heap.size + 1, i, none⟩ = w1.cell? ⟨w.heap.size + 1, i, none⟩ := fun i => by rw [hW9]; exact World.cell?_setCell_other _ _ _ _ (fun e => by have := congrArg Addr.block e; simp at this)
  have m2 : W9.cell? ⟨w.heap.size + 1 + 1, 2, none⟩ = some (.slice (some ⟨w.heap.size + 1 + 1 + 1, 0, none⟩) un un) := by rw [hW9]; exact World.cell?_setCell_same' _ _ _ (by rw [c5]; simp [go_sem])
  have m0 : W9.cell? ⟨w.heap.size + 1 + 1, 0, none⟩ = some (.int .i64 pa) := by rw [hW9, World.cell?_setCell_other _ _ _ _ (fun e => by have := congrArg Addr.off e; simp at this), c5]; simp [go_sem]
  have m1 : W9.cell? ⟨w.heap.size + 1 + 1, 1, none⟩ = some (.int .i64 sl) := by rw [hW9, World.cell?_setCell_other _ _ _ _ (fun e => by have := congrArg Addr.off e; simp at this), c5]; simp [go_sem]
  have m3 : W9.cell? ⟨w.heap.size + 1 + 1, 3, none⟩ = some (.slice none 0 0) := by rw [hW9, World.cell?_setCell_other _ _ _ _ (fun e => by have := congrArg Addr.off e; simp at this), c5]; simp [go_sem]
  have q0 : W9.cell? ⟨w.heap.size + 1, 0, none⟩ = some (.int .i64 0) := by rw [k2, c4]; simp [go_sem]
  have q1 : W9.cell? ⟨w.heap.size + 1, 1, none⟩ = some (.int .i64 0) := by rw [k2, c4]; simp [go_sem]
  have q2 : W9.cell? ⟨w.heap.size + 1, 2, none⟩ = some (.slice none 0 0) := by rw [k2, c4]; simp [go_sem]
  have q3 : W9.cell? ⟨w.heap.size + 1, 3, none⟩ = some (.slice none 0 0) := by rw [k2, c4]; simp [go_sem]
  have e5 : ∀ i, W9.frozen? ⟨w.heap.size + 1 + 1, i, none⟩ = false := fun i => by rw [hW9]; simp [go_sem, f5]
  have e4 : ∀ i, W9.frozen? ⟨w.heap.size + 1, i, none⟩ = false := fun i => by rw [hW9]; simp [go_sem, f4]
  have R9 : W9.rowIs (w.heap.size + 1 + 1 + 1) 59 (un * 2) (upF ub ui) := by rw [hW9]; exact R1.out.setOther (a := ⟨w.heap.size + 1 + 1, 2, none⟩) (by dsimp only; omega) _
  rw [← hW9]
  clear hW9 c5 c4 c3 f5 f4 k2 R1 BB
  refine (toInsS_at _ _ _ co ca _ _ (HS2.out.below B9 hT) hn2).mono ?_
  rintro e w2 ⟨rfl, s2, b2⟩
  have hz2 : W9.heap.size ≤ w2.heap.size := b2.size
  have n0 := ((bcell b2).1 (w.heap.size + 1 + 1) 0 (by omega)).trans m0
  have n1 := ((bcell b2).1 (w.heap.size + 1 + 1) 1 (by omega)).trans m1
  have n2 := ((bcell b2).1 (w.heap.size + 1 + 1) 2 (by omega)).trans m2
  have n3 := ((bcell b2).1 (w.heap.size + 1 + 1) 3 (by omega)).trans m3
  have p0 := ((bcell b2).1 (w.heap.size + 1) 0 (by omega)).trans q0
  have p1 := ((bcell b2).1 (w.heap.size + 1) 1 (by omega)).trans q1
  have p2 := ((bcell b2).1 (w.heap.size + 1) 2 (by omega)).trans q2
  have p3 := ((bcell b2).1 (w.heap.size + 1) 3 (by omega)).trans q3
  have g5 := fun i => ((bcell b2).2 (w.heap.size + 1 + 1) i (by omega)).trans (e5 i)
  have g4 := fun i => ((bcell b2).2 (w.heap.size + 1) i (by omega)).trans (e4 i)
  have R2 : Hid (w2.rowIs (w.heap.size + 1 + 1 + 1) 59 (un * 2) (upF ub ui)) := R9.of_block (b2.block _ R9.lt)
  have S2 : Hid (w2.rowIs W9.heap.size 42 (cn * 2) (inF co ca)) := s2
  have BB : Hid (Below w.heap.size w w2) := below_next B9 b2
  have lz : Hid (w.heap.size + 1 + 1 + 1 < W9.heap.size) := by show _ < _; omega
  clear m0 m1 m2 m3 q0 q1 q2 q3 e5 e4 R9 s2 b2 B9 HS HS2
  go_wp2
  have i0 : (w2.cell? ⟨w.heap.size + 1, 0, none⟩).isSome = true := by rw [p0]; rfl
  have i1 : (w2.cell? ⟨w.heap.size + 1, 1, none⟩).isSome = true := by rw [p1]; rfl
  have i2 : (w2.cell? ⟨w.heap.size + 1, 2, none⟩).isSome = true := by rw [p2]; rfl
  have i3 : (w2.cell? ⟨w.heap.size + 1, 3, none⟩).isSome = true := by rw [p3]; rfl
  refine bodyPost_ret (v := .agg #[.int .i64 pa, .int .i64 sl, .slice (some ⟨w.heap.size + 1 + 1 + 1, 0, none⟩) un un, .slice (some ⟨W9.heap.size, 0, none⟩) cn cn]) (by simp [results, Try.results7, go_sem, i0, i1, i2, i3]) rfl ⟨_, _, rfl, ?_, ?_, by omega, lz.out, ?_, ?_⟩
  · refine World.rowIs.setOther (World.rowIs.setOther (World.rowIs.setOther (World.rowIs.setOther (World.rowIs.setOther R2.out ?_ _) ?_ _) ?_ _) ?_ _) ?_ _ <;> (dsimp only; omega)
  · have := lz.out
    refine World.rowIs.setOther (World.rowIs.setOther (World.rowIs.setOther (World.rowIs.setOther (World.rowIs.setOther S2.out ?_ _) ?_ _) ?_ _) ?_ _) ?_ _ <;> (dsimp only; omega)
  · have := S2.out.lt
    simpa using this
  · refine Below.setCell (Below.setCell (Below.setCell (Below.setCell (Below.setCell BB.out ?_ _) ?_ _) ?_ _) ?_ _) ?_ _ <;> (dsimp only; omega)
/-- A Proto's two rows, each in a block of its own, from number B on and below T. -/
def PtOwn (B T : Nat) (w : World) (b1 b2 un cn : Nat) (ub : Nat → Bool) (ui co ca : Nat → Int) : Prop := w.rowIs b1 59 (un * 2) (upF ub ui) ∧ w.rowIs b2 42 (cn * 2) (inF co ca) ∧ B ≤ b1 ∧ b1 < b2 ∧ b2 < T
theorem PtOwn.below {B T C : Nat} {w w' : World} {b1 b2 un cn : Nat} {ub : Nat → Bool} {ui co ca : Nat → Int} (h : PtOwn B T w b1 b2 un cn ub ui co ca) (hb : Below C w w') (hT : T ≤ C) : PtOwn B T w' b1 b2 un cn ub ui co ca := by
  obtain ⟨h1, h2, h3, h4, h5⟩ := h
  exact ⟨h1.of_block (hb.block _ (by omega)), h2.of_block (hb.block _ (by omega)), h3, h4, h5⟩
theorem rowIs_slF {w : World} {b n m M T : Nat} {t : TypeId} {f : Nat → Value} (h : w.rowIs b t M f) (hm : m ≤ M) (hT : b < T) (c : Nat) : SlF T w (.slice (some ⟨b, 0, none⟩) n c) n m f :=
  ⟨_, _, rfl, .inr ⟨b, 0, rfl, hT, h.lt, fun i hi => by rw [Nat.zero_add, h.cell (by omega)]⟩⟩
theorem PtOwn.ups {B T : Nat} {w : World} {b1 b2 un cn : Nat} {ub : Nat → Bool} {ui co ca : Nat → Int} (h : PtOwn B T w b1 b2 un cn ub ui co ca) (c : Nat) : SlF T w (.slice (some ⟨b1, 0, none⟩) un c) un (2 * un) (upF ub ui) := rowIs_slF h.1 (by omega) (by have := h.2.2.2; omega) c
theorem PtOwn.code {B T : Nat} {w : World} {b1 b2 un cn : Nat} {ub : Nat → Bool} {ui co ca : Nat → Int} (h : PtOwn B T w b1 b2 un cn ub ui co ca) (c : Nat) : SlF T w (.slice (some ⟨b2, 0, none⟩) cn c) cn (2 * cn) (inF co ca) := rowIs_slF h.2.1 (by omega) h.2.2.2.2 c
theorem markUpS_one (b n c : Nat) (pp : Nat → Bool) (qq : Nat → Int) (k0 : Int) (w : World) (h : w.rowIs b 59 (n * 2) (upF pp qq)) (hn : (n : Int) ≤ 1048576) (hk0 : 0 ≤ k0) (hk1 : k0 ≤ 9000000) :
    Calls Try.prog 25 #[.slice (some ⟨b, 0, none⟩) n c, .int .i64 k0] w fun e w' => e = .returned (.int .i64 (k0 + 2 * n)) ∧ Apart b (b + 1) w w' := by
  refine (markUpS_at (fun k => if k = b then 1 else 0) 0 1 _ n c pp qq k0 w (.inr ⟨b, n * 2, _, rfl, by simp, Nat.zero_le _, by omega, h, fun _ _ => rfl⟩) hn hk0 hk1).mono ?_
  rintro e w' ⟨he, _, ht⟩
  exact ⟨he, ht.os, ht.tape, ht.output, ht.size, fun k hk hr => ht.block k hk (by simp; omega)⟩
theorem markInsS_one (b n c : Nat) (pp qq : Nat → Int) (k0 : Int) (w : World) (h : w.rowIs b 42 (n * 2) (inF pp qq)) (hn : (n : Int) ≤ 1048576) (hk0 : 0 ≤ k0) (hk1 : k0 ≤ 9000000) :
    Calls Try.prog 26 #[.slice (some ⟨b, 0, none⟩) n c, .int .i64 k0] w fun e w' => e = .returned (.int .i64 (k0 + 2 * n)) ∧ Apart b (b + 1) w w' := by
  refine (markInsS_at (fun k => if k = b then 1 else 0) 0 1 _ n c pp qq k0 w (.inr ⟨b, n * 2, _, rfl, by simp, Nat.zero_le _, by omega, h, fun _ _ => rfl⟩) hn hk0 hk1).mono ?_
  rintro e w' ⟨he, _, ht⟩
  exact ⟨he, ht.os, ht.tape, ht.output, ht.size, fun k hk hr => ht.block k hk (by simp; omega)⟩
theorem has_apartJ {w w' : World} {B T b : Nat} {A : Array Value} (h : ∀ i, w.cell? ⟨b, i, none⟩ = A[i]?) (hb : Apart B T w w') (h1 : b < w.heap.size) (h2 : b < B ∨ T ≤ b) : ∀ i, w'.cell? ⟨b, i, none⟩ = A[i]? := fun i => by
  rw [← h i]
  simp only [World.cell?, hb.block b h1 h2]
theorem markProto_any (pa sl : Int) (b1 b2 un cu cn cc : Nat) (ub : Nat → Bool) (ui co ca : Nat → Int) (B T : Nat) (k0 : Int) (w : World) (h : PtOwn B T w b1 b2 un cn ub ui co ca) (hT : T ≤ w.heap.size) (hn : un ≤ 1048576) (hn2 : cn ≤ 1048576) (hk0 : 0 ≤ k0) (hk1 : k0 ≤ 9) :
    Calls Try.prog 11 #[.agg #[.int .i64 pa, .int .i64 sl, .slice (some ⟨b1, 0, none⟩) un cu, .slice (some ⟨b2, 0, none⟩) cn cc], .int .i64 k0] w fun e w' => e = .returned (.int .i64 (k0 + 2 * un + 2 * cn)) ∧ Apart B T w w' := by
  obtain ⟨h1, h2, h3, h4, h5⟩ := h
  have A0 : Below w.heap.size w (w.alloc (.cells #[.int .i64 pa, .int .i64 sl, .slice (some ⟨b1, 0, none⟩) un cu, .slice (some ⟨b2, 0, none⟩) cn cc] 32)) := (Below.refl _ _).alloc (Nat.le_refl _) _
  have r1 := h1.of_block (A0.block _ (by omega))
  have r2 := h2.of_block (A0.block _ (by omega))
  have s0 : w.heap.size < (w.alloc (.cells #[.int .i64 pa, .int .i64 sl, .slice (some ⟨b1, 0, none⟩) un cu, .slice (some ⟨b2, 0, none⟩) cn cc] 32)).heap.size := by simp
  have k0' : ∀ i, (w.alloc (.cells #[.int .i64 pa, .int .i64 sl, .slice (some ⟨b1, 0, none⟩) un cu, .slice (some ⟨b2, 0, none⟩) cn cc] 32)).cell? ⟨w.heap.size, i, none⟩ = (#[.int .i64 pa, .int .i64 sl, .slice (some ⟨b1, 0, none⟩) un cu, .slice (some ⟨b2, 0, none⟩) cn cc] : Array Value)[i]? := fun i => by simp [go_sem]
  have HR1 : Hid (World.rowIs _ b1 59 (un * 2) (upF ub ui)) := r1
  have HR2 : Hid (World.rowIs _ b2 42 (cn * 2) (inF co ca)) := r2
  have HA : Hid (Apart B T w _) := below_apart A0 (Nat.le_refl _) B T
  clear h1 h2 r1 r2 A0
  go_enter Try.func11, Try.ntmps11
  go_wp2_with fail
  refine (markUpS_one b1 un cu ub ui k0 _ HR1.out (by omega) hk0 (by omega)).mono ?_
  rintro e w1 ⟨rfl, a1⟩
  have k1 := has_apartJ k0' a1 s0 (by omega)
  have R2 : Hid (World.rowIs _ b2 42 (cn * 2) (inF co ca)) := World.rowIs.of_block HR2.out (a1.block b2 (by omega) (by omega))
  have A1 : Hid (Apart B T w w1) := HA.out.trans ⟨a1.os, a1.tape, a1.output, a1.size, fun k hk hr => a1.block k hk (by omega)⟩
  have s1 := Nat.lt_of_lt_of_le s0 a1.size
  clear a1 k0' HR1 HR2 HA s0
  go_wp2_with fail
  refine (markInsS_one b2 cn cc co ca (k0 + 2 * un) _ R2.out (by omega) (by omega) (by omega)).mono ?_
  rintro e w2 ⟨rfl, a2⟩
  have A2 : Hid (Apart B T w w2) := A1.out.trans ⟨a2.os, a2.tape, a2.output, a2.size, fun k hk hr => a2.block k hk (by omega)⟩
  clear a2 A1 R2 k1
  go_wp2
  go_ret
  exact ⟨rfl, A2.out⟩
end Go.Proofs.Ytpjliclgjplebaa
