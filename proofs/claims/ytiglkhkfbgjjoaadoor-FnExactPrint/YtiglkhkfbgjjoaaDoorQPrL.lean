/- - -/
import Derived.Test.YtiglkhkfbgjjoaaDoorQMtP
namespace Go.Proofs.YtiglkhkfbgjjoaaDoor
set_option maxRecDepth 20000
open Go.RowKit
set_option linter.unusedSimpArgs false
set_option linter.unusedVariables false
theorem zfa {w w' : World} {A : Array Value} {t : TypeId} {C : Nat} (hB : Below C (w.alloc (.cells A t)) w') (hC : w.heap.size < C) : ∀ i, w'.cell? ⟨w.heap.size, i, none⟩ = A[i]? := by
 intro i
 rw [hB.cell (p := ⟨w.heap.size, i, none⟩) hC]; simp [go_sem]
theorem zag {w w' : World} {C b : Nat} {A : Array Value} (h : ∀ i, w.cell? ⟨b, i, none⟩ = A[i]?) (hb : Below C w w') (hC : b < C) : ∀ i, w'.cell? ⟨b, i, none⟩ = A[i]? := fun i => by
 rw [hb.cell (p := ⟨b, i, none⟩) hC]; exact h i
set_option maxHeartbeats 4000000 in
theorem zgl (a1 : Option Addr) (c1 L1 : Nat) (p1 : Int) (X : Nat -> KnD) (w : World) (hs1 : KnF w.heap.size w (.slice a1 L1 c1) L1 X) (m3 : L1 <= 9223372036854775807) (hX : ∀ j, j < L1 -> (X j).len <= 9223372036854775807 /\ (X j).t.size <= 9223372036854775807) (htab : ∀ V, Below w.heap.size w V -> zbt V) :
 Calls Tryd.prog 5 #[.agg #[.slice a1 L1 c1, .int .i64 p1]] w fun e w' => e = .returned (.bool true) /\ Below w.heap.size w w' := by
 have HZ1 : Hid (∀ (W : World) (left : Int), Below w.heap.size w W -> 0 <= left -> left <= 1048576 -> _) := fun W (left : Int) (hW : Below w.heap.size w W) h0 h1 => zfb a1 L1 c1 p1 X w.heap.size left W (hs1.below hW (Nat.le_refl _)) hW.size h0 h1 m3 hX
 have HS1 : Hid (KnF w.heap.size w (.slice a1 L1 c1) L1 X) := hs1
 have HTB : Hid (∀ V, Below w.heap.size w V -> zbt V) := htab
 clear hs1 hX htab
 have B0 : Below w.heap.size w (w.alloc (.cells #[.slice a1 L1 c1, .int .i64 p1] 35)) := (Below.refl _ _).alloc (Nat.le_refl _) _
 go_enter Tryd.func5, Tryd.ntmps5
 go_wp2_with fail
 refine (HZ1.out _ _ B0 (by omega) (by omega)).mono ?_
 rintro e w2 ⟨r, rfl, hr, b1⟩
 have B2 := B0.trans (b1.mono (by simp))
 have k2 : ∀ i, w2.cell? ⟨w.heap.size, i, none⟩ = (#[.slice a1 L1 c1, .int .i64 p1] : Array Value)[i]? := fun i => by rw [(zab b1).1 _ _ (by simp)]; simp [go_sem]
 have z2 : w.heap.size + 1 <= w2.heap.size := by have := b1.size; simp at this; omega
 clear b1
 rcases hr with rfl | ⟨r0, r1, l3, hX2⟩
 · go_wp2
   go_ret
   exact ⟨rfl, B2⟩
 have HX1 : Hid (∀ j, j < L1 -> (X j).len <= 1048576) := fun j hj => (hX2 j hj).1
 have HX2 : Hid (∀ j, j < L1 -> (X j).len <= 1048576 /\ (X j).t.size <= 1048576) := hX2
 clear hX2 HZ1
 obtain ⟨s0, q0, hq0⟩ : ∃ (s0 : ByteArray) (q0 : Bool), ∀ (W W' : World) e, zd9 X L1 p1 W e W' -> e = .returned (.tuple #[.string s0, .bool q0]) /\ Below W.heap.size W W' := by
  by_cases h : TOK X L1 p1
  · exact ⟨_, _, fun W W' e hh => ⟨by rcases hh.1 with hh | hh; exact hh.2; exact absurd h hh.1, hh.2⟩⟩
  · exact ⟨_, _, fun W W' e hh => ⟨by rcases hh.1 with hh | hh; exact absurd hh.1 h; exact hh.2, hh.2⟩⟩
 have HT1 : Hid (∀ W, Below w.heap.size w W -> _) := fun W (hW : Below w.heap.size w W) => zgo a1 L1 c1 p1 X w.heap.size W (HS1.out.below hW (Nat.le_refl _)) hW.size l3 HX1.out
 have HSP : Hid (∀ (a1 : Option Addr) (c1 : Nat) (W : World), za1 W.heap.size W (.slice a1 L1 c1) L1 X -> Calls Tryd.prog 16 #[.agg #[.slice a1 L1 c1, .int .i64 p1]] W fun e w' => e = .returned (.tuple #[.string s0, .bool q0]) /\ Below W.heap.size W w') :=
  fun a1 c1 W h1 => (zd0 a1 c1 L1 p1 X W.heap.size W h1 (Nat.le_refl _) l3 HX2.out).mono fun e w' h => hq0 _ _ _ h
 have HIM : Hid (∀ (a1 : Option Addr) (c1 : Nat) (W : World), za1 W.heap.size W (.slice a1 L1 c1) L1 X -> Below w.heap.size w W -> Calls Tryd.prog 18 #[.agg #[.slice a1 L1 c1, .int .i64 p1]] W fun e w' => e = .returned (.tuple #[.string s0, .bool q0]) /\ Below W.heap.size W w') :=
  fun a1 c1 W h1 hW => (zea a1 c1 L1 p1 X W.heap.size W h1 (Nat.le_refl _) l3 HX2.out (fun V hV => HTB.out V (hW.trans (hV.mono hW.size))) (fun h => Nat.le_trans (zgr h) (by omega))).mono fun e w' h => hq0 _ _ _ h
 clear hq0
 have k20 := k2 0
 have k21 := k2 1
 simp at k20 k21
 go_wp2_with fail
 refine (HT1.out _ B2).mono ?_
 rintro e wA ⟨x1, rfl, sA, bA⟩
 have BA := zh B2 bA
 have kA := zag k2 bA (by omega)
 have zA := Nat.le_trans z2 bA.size
 clear bA k20 k21
 go_wp2_with fail
 refine (HSP.out _ _ _ sA).mono ?_
 rintro e w3 ⟨rfl, b3⟩
 have B3 := zh BA b3
 have k3 := zag kA b3 (by omega)
 have z3 := Nat.le_trans zA b3.size
 clear b3 sA kA
 have k30 := k3 0
 have k31 := k3 1
 simp at k30 k31
 go_wp2_with fail
 refine (HT1.out _ B3).mono ?_
 rintro e w4 ⟨x5, rfl, s4, b4⟩
 have B4 := zh B3 b4
 have k4 := zag k3 b4 (by omega)
 have z4 := Nat.le_trans z3 b4.size
 clear b4 k3 k30 k31
 have Bx : Below w4.heap.size w4 (w4.alloc (.cells #[.slice (some ⟨x5, 0, none⟩) L1 L1, .int .i64 p1] 41)) := (Below.refl _ _).alloc (Nat.le_refl _) _
 have k4' := zag k4 Bx (by omega)
 have p4' := zfa (t := 41) (Below.refl (w4.alloc (.cells #[.slice (some ⟨x5, 0, none⟩) L1 L1, .int .i64 p1] 41)).heap.size (w4.alloc (.cells #[.slice (some ⟨x5, 0, none⟩) L1 L1, .int .i64 p1] 41))) (by simp)
 have s4' := (s4.below Bx (Nat.le_refl _)).mono Bx.size
 have B4' := zh B4 Bx
 clear k4 s4 Bx
 go_wp2_with fail
 obtain ⟨W4, hW4⟩ : ∃ W, W = w4.alloc (.cells #[.slice (some ⟨x5, 0, none⟩) L1 L1, .int .i64 p1] 41) := ⟨_, rfl⟩
 have Z4 : W4.heap.size = w4.heap.size + 1 := by rw [hW4]; simp
 rw [<- hW4] at k4' p4' s4' B4' ⊢
 clear hW4
 refine (HIM.out _ _ _ s4' B4').mono ?_
 rintro e w6 ⟨rfl, b6⟩
 have B6 := zh B4' b6
 have k6 := zag k4' b6 (by omega)
 have p6 := zag p4' b6 (by omega)
 have t6 := (s4'.below b6 (Nat.le_refl _)).mono b6.size
 have z6 : w4.heap.size + 1 <= w6.heap.size := Nat.le_trans (Nat.le_of_eq Z4.symm) b6.size
 clear b6 k4' p4' s4' B4' HIM HSP
 have KP : ∀ V, Below w6.heap.size w6 V -> (Below w6.heap.size w6 V /\ (∀ i, V.cell? ⟨w.heap.size, i, none⟩ = (#[.slice a1 L1 c1, .int .i64 p1] : Array Value)[i]?) /\ (∀ i, V.cell? ⟨w4.heap.size, i, none⟩ = (#[.slice (some ⟨x5, 0, none⟩) L1 L1, .int .i64 p1] : Array Value)[i]?)) := fun V hV => ⟨hV, zag k6 hV (by omega), zag p6 hV (by omega)⟩
 have b6' := (Below.refl w6.heap.size w6).drew
 go_wp2_with fail
 clear k6 p6
 go_region_held3 (fun V => Below w6.heap.size w6 V /\ (∀ i, V.cell? ⟨w.heap.size, i, none⟩ = (#[.slice a1 L1 c1, .int .i64 p1] : Array Value)[i]?) /\ (∀ i, V.cell? ⟨w4.heap.size, i, none⟩ = (#[.slice (some ⟨x5, 0, none⟩) L1 L1, .int .i64 p1] : Array Value)[i]?)) (first | assumption | exact KP _ b6' | exact KP _ (by assumption)) (first | (go_at_call 17; refine (HT1.out _ (zh B6 (And.left (by assumption)))).mono ?_; rintro e wA ⟨x1, rfl, sA, bA⟩; have hA := zh (w := w6) (And.left (by assumption)) bA) | (go_at_call 19; refine (zeq _ _ _ _ _ _ X _ _ ((t6.knF.below hA (Nat.le_refl _)).mono hA.size) sA.knF (Nat.le_refl _) l3 HX1.out).mono ?_; rintro e w7 ⟨rfl, b7⟩; have hB7 := zh (w := w6) hA b7))
 all_goals
  go_wp2
  go_ret
  exact ⟨rfl, zh B6 hB7⟩
end Go.Proofs.YtiglkhkfbgjjoaaDoor
