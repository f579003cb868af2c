/- - -/
import Derived.Test.YthdnpafigkkkkaaGreatDMkK
import Derived.Test.YthdnpafigkkkkaaGreatDMkN
import Derived.Test.YthdnpafigkkkkaaGreatDDpI
namespace Go.Proofs.YthdnpafigkkkkaaGreat
set_option maxRecDepth 20000
open Go.RowKit
set_option linter.unusedSimpArgs false
set_option linter.unusedVariables false
theorem zhc (aw : Option Addr) (n cw : Nat) (sm toh top : Int) (cyc : Bool) (sn old cp sr : Int) (ar : Option Addr) (m cr : Nat) (left : Int) (w : World) (l0 : 0 <= left) (l1 : left <= 1048576) (hn : n <= 9223372036854775807) (hm : m <= 9223372036854775807) :
 Calls Tryz.prog 10 #[.agg #[.slice aw n cw, .int .i64 sm, .int .i64 toh, .int .i64 top, .bool cyc, .int .i64 sn, .int .i64 old, .int .i64 cp, .int .i64 sr, .slice ar m cr], .int .i64 left] w fun e w' => e = .returned (.int .i64 (if (n : Int) + m <= left then left - n - m else -1)) /\ Below w.heap.size w w' := by
 by_cases h1 : (n : Int) <= left
 · by_cases h2 : (n : Int) + m <= left
   · have g1 : ¬ (left - (n : Int)) < 0 := by omega
     have g2 : ¬ (left - (n : Int) - m) < 0 := by omega
     have e1 : (if (m : Int) <= left - (n : Int) then left - (n : Int) - m else -1) = left - (n : Int) - m := if_pos (by omega)
     rw [if_pos h2]
     go_enter Tryz.func10, Tryz.ntmps10
     go_wp2_with (first | (go_at_call 27; refine (zfq _ _ _ _ _ (by omega) (by omega) hn).mono ?_; rw [if_pos h1]; rintro e w1 ⟨rfl, rfl⟩) | (go_at_call 28; refine (zik _ _ _ _ _ (by omega) (by omega) hm).mono ?_; rw [e1]; rintro e w2 ⟨rfl, rfl⟩))
     go_ret
     exact ⟨rfl, zc (Below.refl _ _)⟩
   · have g1 : ¬ (left - (n : Int)) < 0 := by omega
     have e1 : (if (m : Int) <= left - (n : Int) then left - (n : Int) - m else -1) = -1 := if_neg (by omega)
     rw [if_neg h2]
     go_enter Tryz.func10, Tryz.ntmps10
     go_wp2_with (first | (go_at_call 27; refine (zfq _ _ _ _ _ (by omega) (by omega) hn).mono ?_; rw [if_pos h1]; rintro e w1 ⟨rfl, rfl⟩) | (go_at_call 28; refine (zik _ _ _ _ _ (by omega) (by omega) hm).mono ?_; rw [e1]; rintro e w2 ⟨rfl, rfl⟩))
     go_ret
     exact ⟨rfl, zc (Below.refl _ _)⟩
 · have h2 : ¬ (n : Int) + m <= left := by omega
   rw [if_neg h2]
   go_enter Tryz.func10, Tryz.ntmps10
   go_wp2_with (first | (go_at_call 27; refine (zfq _ _ _ _ _ (by omega) (by omega) hn).mono ?_; rw [if_neg h1]; rintro e w1 ⟨rfl, rfl⟩))
   go_ret
   exact ⟨rfl, zc (Below.refl _ _)⟩
set_option maxHeartbeats 2000000 in
theorem zkw (a1 : Option Addr) (L c1 : Nat) (a2 : Option Addr) (n c2 : Nat) (aw : Option Addr) (cw : Nat) (ws : List Int) (sm toh top : Int) (cyc : Bool) (sn old cp sr : Int) (ar : Option Addr) (cr : Nat) (rs : List (Int × Int)) (fa de sh : Bool) (st et en sp : Int) (ao : Option Addr) (m co : Nat) (X : Nat -> PtD) (s : Nat -> ByteArray) (y : Nat -> Int) (u : Nat -> ByteArray) (w : World) (h : McF w (.slice a1 L c1) (.slice a2 n c2) (.slice aw ws.length cw) (.slice ar rs.length cr) (.slice ao m co) L X n s ws rs.length y m u) (g1 : L <= 9223372036854775807) (g2 : n <= 9223372036854775807) (g3 : ∀ j, j < L -> PLr (X j)) (g4 : ∀ j, j < n -> (s j).size <= 9223372036854775807) (g5 : ws.length <= 9223372036854775807) (g6 : rs.length <= 9223372036854775807) (g7 : m <= 9223372036854775807) (g8 : ∀ j, j < m -> (u j).size <= 9223372036854775807) :
 Calls Tryz.prog 4 #[.agg #[.slice a1 L c1, .slice a2 n c2, .slice aw ws.length cw, .int .i64 sm, .int .i64 toh, .int .i64 top, .bool cyc, .int .i64 sn, .int .i64 old, .int .i64 cp, .int .i64 sr, .slice ar rs.length cr, .bool fa, .bool de, .bool sh, .int .i64 st, .int .i64 et, .int .i64 en, .int .i64 sp, .slice ao m co], .int .i64 1048576] w fun e w' => ∃ r : Int, e = .returned (.int .i64 r) /\ (r = -1 \/ 0 <= r /\ L <= 1048576 /\ n <= 1048576 /\ (∀ j, j < L -> PLe (X j) 1048576) /\ ws.length <= 1048576 /\ rs.length <= 1048576 /\ m <= 1048576) /\ Below w.heap.size w w' := by
 have B0 : Below w.heap.size w (w.alloc (.cells #[.slice a1 L c1, .slice a2 n c2, .slice aw ws.length cw, .int .i64 sm, .int .i64 toh, .int .i64 top, .bool cyc, .int .i64 sn, .int .i64 old, .int .i64 cp, .int .i64 sr, .slice ar rs.length cr, .bool fa, .bool de, .bool sh, .int .i64 st, .int .i64 et, .int .i64 en, .int .i64 sp, .slice ao m co] 33)) := (Below.refl _ _).alloc (Nat.le_refl _) _
 have HZ1 : Hid (Calls _ _ _ _ _) := zms a1 L c1 X a2 n c2 s w.heap.size 1048576 _ (h.md.1.below B0 (Nat.le_refl _)) (h.md.2.below B0 (Nat.le_refl _)) B0.size (by omega) (by omega) g1 (fun j hj => (g3 j hj).1) g2 g4
 have HO : Hid (TxF w.heap.size w (.slice ao m co) m u) := h.ot
 have G8 : Hid (∀ j, j < m -> (u j).size <= 9223372036854775807) := g8
 clear h g3 g4 g8
 go_enter Tryz.func4, Tryz.ntmps4
 go_wp2_with fail
 refine HZ1.out.mono ?_
 rintro e w1 ⟨r, rfl, hr, b1⟩
 have X0 := (zd.new w 33 #[.slice a1 L c1, .slice a2 n c2, .slice aw ws.length cw, .int .i64 sm, .int .i64 toh, .int .i64 top, .bool cyc, .int .i64 sn, .int .i64 old, .int .i64 cp, .int .i64 sr, .slice ar rs.length cr, .bool fa, .bool de, .bool sh, .int .i64 st, .int .i64 et, .int .i64 en, .int .i64 sp, .slice ao m co]).below b1 (by simp)
 have B1 := zb B0 b1
 have k0 := X0.cell
 have z1 := X0.lt
 clear b1 HZ1
 rcases hr with rfl | ⟨r0, r1, l1, l2, l3⟩
 · go_wp2
   go_ret
   exact ⟨-1, rfl, .inl rfl, B1⟩
 have HL : Hid (∀ j, j < L -> PLe (X j) 1048576) := l2
 clear l2
 have r0' : ¬ r < 0 := by omega
 by_cases c1 : (ws.length : Int) + rs.length <= r
 rotate_left
 · have HA : Hid (∀ W, _) := fun W => zhc aw ws.length cw sm toh top cyc sn old cp sr ar rs.length cr r W r0 (by omega) g5 g6
   rw [if_neg c1] at HA
   go_wp2_with fail
   refine (HA.out _).mono ?_
   rintro e w2 ⟨rfl, b2⟩
   have B2 := zb B1 b2
   go_wp2
   go_ret
   exact ⟨-1, rfl, .inl rfl, B2⟩
 have HA : Hid (∀ W, _) := fun W => zhc aw ws.length cw sm toh top cyc sn old cp sr ar rs.length cr r W r0 (by omega) g5 g6
 rw [if_pos c1] at HA
 have q0 : 0 <= r - (ws.length : Int) - rs.length := by omega
 have q1 : r - (ws.length : Int) - rs.length <= 1048576 := by omega
 have l4 : ws.length <= 1048576 := by omega
 have l5 : rs.length <= 1048576 := by omega
 generalize r - (ws.length : Int) - rs.length = r2 at HA q0 q1
 have q0' : ¬ r2 < 0 := by omega
 go_wp2_with fail
 refine (HA.out _).mono ?_
 rintro e w2 ⟨rfl, b2⟩
 have B2 := zb B1 b2
 have X2 := X0.below b2 z1
 have k2 := X2.cell
 have HS : Hid (Calls _ _ _ _ _) := zgo ao m co u w.heap.size r2 w2 (HO.out.below B2 (Nat.le_refl _)) q0 q1 g7 G8.out
 clear b2 k0 X0 HA HO G8
 go_wp2_with fail
 refine HS.out.mono ?_
 rintro e w3 ⟨r3, rfl, hr3, e3⟩
 subst e3
 rcases hr3 with rfl | ⟨s0, s1, s2, _⟩
 · go_wp2
   go_ret
   exact ⟨-1, rfl, .inl rfl, B2⟩
 have s0' : ¬ r3 < 0 := by omega
 go_wp2
 go_ret
 exact ⟨r3, rfl, .inr ⟨s0, l1, l3, HL.out, l4, l5, s2⟩, B2⟩
set_option maxHeartbeats 4000000 in
theorem zjt (L n m : Nat) (ws : List Int) (sm toh top : Int) (cyc : Bool) (sn old cp sr : Int) (rs : List (Int × Int)) (fa de sh : Bool) (st et en sp : Int) (X : Nat -> PtD) (s : Nat -> ByteArray) (y : Nat -> Int) (u : Nat -> ByteArray) (p1 p2 p3 p4 p5 : Option Addr) (pc1 pc2 pc3 pc4 pc5 : Nat) (q1 q2 q3 q4 q5 : Option Addr) (qc1 qc2 qc3 qc4 qc5 : Nat)  (w : World) (h1 : McF w (.slice p1 L pc1) (.slice p2 n pc2) (.slice p3 ws.length pc3) (.slice p4 rs.length pc4) (.slice p5 m pc5) L X n s ws rs.length y m u) (h2 : McF w (.slice q1 L qc1) (.slice q2 n qc2) (.slice q3 ws.length qc3) (.slice q4 rs.length qc4) (.slice q5 m qc5) L X n s ws rs.length y m u) (hL : L <= 1048576) (hn : n <= 1048576) (hX : ∀ j, j < L -> PLe (X j) 1048576) (hws : ws.length <= 1048576) (hrs : rs.length <= 1048576) (hm : m <= 1048576) :
 Calls Tryz.prog 8 #[.agg #[.slice p1 L pc1, .slice p2 n pc2, .slice p3 ws.length pc3, .int .i64 sm, .int .i64 toh, .int .i64 top, .bool cyc, .int .i64 sn, .int .i64 old, .int .i64 cp, .int .i64 sr, .slice p4 rs.length pc4, .bool fa, .bool de, .bool sh, .int .i64 st, .int .i64 et, .int .i64 en, .int .i64 sp, .slice p5 m pc5], .agg #[.slice q1 L qc1, .slice q2 n qc2, .slice q3 ws.length qc3, .int .i64 sm, .int .i64 toh, .int .i64 top, .bool cyc, .int .i64 sn, .int .i64 old, .int .i64 cp, .int .i64 sr, .slice q4 rs.length qc4, .bool fa, .bool de, .bool sh, .int .i64 st, .int .i64 et, .int .i64 en, .int .i64 sp, .slice q5 m qc5]] w fun e w' => e = .returned (.bool true) /\ Below w.heap.size w w' := by
 have H1 : Hid (McF w (.slice p1 L pc1) (.slice p2 n pc2) (.slice p3 ws.length pc3) (.slice p4 rs.length pc4) (.slice p5 m pc5) L X n s ws rs.length y m u) := h1
 have H2 : Hid (McF w (.slice q1 L qc1) (.slice q2 n qc2) (.slice q3 ws.length qc3) (.slice q4 rs.length qc4) (.slice q5 m qc5) L X n s ws rs.length y m u) := h2
 have HX : Hid (∀ j, j < L -> PLe (X j) 1048576) := hX
 have B0 : Below w.heap.size w ((w.alloc (.cells #[.slice p1 L pc1, .slice p2 n pc2, .slice p3 ws.length pc3, .int .i64 sm, .int .i64 toh, .int .i64 top, .bool cyc, .int .i64 sn, .int .i64 old, .int .i64 cp, .int .i64 sr, .slice p4 rs.length pc4, .bool fa, .bool de, .bool sh, .int .i64 st, .int .i64 et, .int .i64 en, .int .i64 sp, .slice p5 m pc5] 44)).alloc (.cells #[.slice q1 L qc1, .slice q2 n qc2, .slice q3 ws.length qc3, .int .i64 sm, .int .i64 toh, .int .i64 top, .bool cyc, .int .i64 sn, .int .i64 old, .int .i64 cp, .int .i64 sr, .slice q4 rs.length qc4, .bool fa, .bool de, .bool sh, .int .i64 st, .int .i64 et, .int .i64 en, .int .i64 sp, .slice q5 m qc5] 44)) := ((Below.refl _ _).alloc (Nat.le_refl _) _).alloc (by simp) _
 clear h1 h2 hX
 go_enter Tryz.func8, Tryz.ntmps8
 go_wp2_with fail
 obtain ⟨W, hW⟩ : ∃ W, W = (w.alloc (.cells #[.slice p1 L pc1, .slice p2 n pc2, .slice p3 ws.length pc3, .int .i64 sm, .int .i64 toh, .int .i64 top, .bool cyc, .int .i64 sn, .int .i64 old, .int .i64 cp, .int .i64 sr, .slice p4 rs.length pc4, .bool fa, .bool de, .bool sh, .int .i64 st, .int .i64 et, .int .i64 en, .int .i64 sp, .slice p5 m pc5] 44)).alloc (.cells #[.slice q1 L qc1, .slice q2 n qc2, .slice q3 ws.length qc3, .int .i64 sm, .int .i64 toh, .int .i64 top, .bool cyc, .int .i64 sn, .int .i64 old, .int .i64 cp, .int .i64 sr, .slice q4 rs.length qc4, .bool fa, .bool de, .bool sh, .int .i64 st, .int .i64 et, .int .i64 en, .int .i64 sp, .slice q5 m qc5] 44) := ⟨_, rfl⟩
 have x0 : zd W w.heap.size 44 #[.slice p1 L pc1, .slice p2 n pc2, .slice p3 ws.length pc3, .int .i64 sm, .int .i64 toh, .int .i64 top, .bool cyc, .int .i64 sn, .int .i64 old, .int .i64 cp, .int .i64 sr, .slice p4 rs.length pc4, .bool fa, .bool de, .bool sh, .int .i64 st, .int .i64 et, .int .i64 en, .int .i64 sp, .slice p5 m pc5] := by rw [hW]; exact (zd.new _ _ _).alloc _
 have x1 : zd W (w.heap.size + 1) 44 #[.slice q1 L qc1, .slice q2 n qc2, .slice q3 ws.length qc3, .int .i64 sm, .int .i64 toh, .int .i64 top, .bool cyc, .int .i64 sn, .int .i64 old, .int .i64 cp, .int .i64 sr, .slice q4 rs.length qc4, .bool fa, .bool de, .bool sh, .int .i64 st, .int .i64 et, .int .i64 en, .int .i64 sp, .slice q5 m qc5] := by rw [hW]; have := zd.new (w.alloc (.cells #[.slice p1 L pc1, .slice p2 n pc2, .slice p3 ws.length pc3, .int .i64 sm, .int .i64 toh, .int .i64 top, .bool cyc, .int .i64 sn, .int .i64 old, .int .i64 cp, .int .i64 sr, .slice p4 rs.length pc4, .bool fa, .bool de, .bool sh, .int .i64 st, .int .i64 et, .int .i64 en, .int .i64 sp, .slice p5 m pc5] 44)) 44 #[.slice q1 L qc1, .slice q2 n qc2, .slice q3 ws.length qc3, .int .i64 sm, .int .i64 toh, .int .i64 top, .bool cyc, .int .i64 sn, .int .i64 old, .int .i64 cp, .int .i64 sr, .slice q4 rs.length qc4, .bool fa, .bool de, .bool sh, .int .i64 st, .int .i64 et, .int .i64 en, .int .i64 sp, .slice q5 m qc5]; simpa using this
 have zW : w.heap.size + 1 < W.heap.size := x1.lt
 rw [<- hW] at B0 ⊢
 clear hW
 have P1 := H1.out.below B0
 have P2 := H2.out.below B0
 refine (zkv _ _ _ _ _ _ _ _ _ _ X s _ _ P1.md P2.md (Nat.le_refl _) hL hn HX.out).mono ?_
 rintro e w1 ⟨rfl, d1⟩
 have B1 := zb B0 d1
 have X0 := x0.below d1 (by omega)
 have X1 := x1.below d1 zW
 have k0 := X0.cell
 have k1 := X1.cell
 have z1 : w.heap.size + 1 < w1.heap.size := X1.lt
 clear d1 x0 x1 zW B0 P1 P2
 go_wp2_with fail
 have P1 := H1.out.below B1
 have P2 := H2.out.below B1
 refine (zlg _ _ _ _ _ _ _ _ ws.length rs.length (za ws) y sm toh top cyc sn old cp sr w1 (zu1 P1.wd) (zu1 P2.wd) hws P1.rt P2.rt hrs).mono ?_
 rintro e w2 ⟨rfl, d2⟩
 have B2 := zb B1 d2
 have Y0 := X0.below d2 (by omega)
 have Y1 := X1.below d2 z1
 clear X0 X1 k0 k1
 have k0 := Y0.cell
 have k1 := Y1.cell
 have z2 : w.heap.size + 1 < w2.heap.size := Y1.lt
 clear d2 z1 B1 P1 P2
 go_wp2_with fail
 refine (ziv et en _).mono ?_
 rintro e w3 ⟨rfl, d3⟩
 have B3 := zb B2 d3
 have X0 := Y0.below d3 (by omega)
 have X1 := Y1.below d3 z2
 clear Y0 Y1 k0 k1
 have k0 := X0.cell
 have k1 := X1.cell
 clear d3 z2 B2
 go_wp2_with fail
 have P1 := H1.out.below B3
 have P2 := H2.out.below B3
 refine (zf8 _ _ _ _ m _ _ u w3 P1.ot P2.ot hm).mono ?_
 rintro e w4 ⟨rfl, d4⟩
 have B4 := zb B3 d4
 clear d4 P1 P2
 go_wp2
 go_ret
 exact ⟨rfl, B4⟩
def zbu (L : Nat) (X : Nat -> PtD) (n : Nat) (s : Nat -> ByteArray) (ws : List Int) (sm toh top : Int) (cyc : Bool) (sn old cp sr : Int) (y : Nat -> Int) (k : Nat) (st sp : Int) (m : Nat) : Prop :=
 MOk L X n s /\ zev ws sm toh top cyc sn old cp sr y k /\ k = 6 /\ 0 <= st /\ st <= 2 /\ 0 <= sp /\ m <= 200 /\ ∀ i, 1 <= i -> i < 6 -> y (2 * i) = 0
def zmu (k : Nat) (y : Nat -> Int) : Prop := k = 6 /\ ∀ i, 1 <= i -> i < 6 -> y (2 * i) = 0 /\ y (2 * i + 1) = 0
theorem zvc {ws : List Int} {sm toh top : Int} {cyc : Bool} {sn old cp sr : Int} {y : Nat -> Int} {k : Nat} (h : zev ws sm toh top cyc sn old cp sr y k) {i : Nat} (hi : i < k) (h0 : y (2 * i) = 0) : y (2 * i + 1) = 0 := by
 obtain ⟨_, L, O, _, _, _, _, hr⟩ := h
 have := (hr i hi).1
 simp only [vOk, decide_eq_true_eq] at this
 omega
theorem zt1 {L : Nat} {X : Nat -> PtD} {n : Nat} {s : Nat -> ByteArray} {ws : List Int} {sm toh top : Int} {cyc : Bool} {sn old cp sr : Int} {y : Nat -> Int} {k : Nat} {st sp : Int} {m : Nat} : zbu L X n s ws sm toh top cyc sn old cp sr y k st sp m ↔ 0 <= st /\ st <= 2 /\ 0 <= sp /\ m <= 200 /\ zmu k y /\ MOk L X n s /\ zev ws sm toh top cyc sn old cp sr y k :=
 ⟨fun ⟨h1, h2, h3, h4, h5, h6, h7, h8⟩ => ⟨h4, h5, h6, h7, ⟨h3, fun i i1 i2 => ⟨h8 i i1 i2, zvc h2 (by omega) (h8 i i1 i2)⟩⟩, h1, h2⟩, fun ⟨h4, h5, h6, h7, ⟨h3, h8⟩, h1, h2⟩ => ⟨h1, h2, h3, h4, h5, h6, h7, fun i i1 i2 => (h8 i i1 i2).1⟩⟩
def mvB (t n t' n' : Int) : Bool := t == t' && n == n'
theorem zvq (t n t' n' : Int) (w : World) : (binOp .eql 42 (.agg #[.int .i64 t, .int .i64 n]) (.agg #[.int .i64 t', .int .i64 n'])).run Tryz.prog w = .ok (.bool (mvB t n t' n')) w := by
 have u3 := Tryz.underlying3
 have a3 := Tryz.isAgg3
 have z3 := Tryz.sizeOf3
 have hS : Tryz.prog.underlying 42 = some (.struct (Tryz.prog.fieldsOf 42)) := by kernel_rfl
 have hp : Tryz.prog.stoodInHeld 42 = false := by kernel_rfl
 rw [run_eql_struct, show (10000 : Nat) = 9999 + 1 from rfl, run_equalIn_agg w 9999 42 _ _ hS hp]
 simp only [Program.fieldsOf, Tryz.underlying42]
 go_simp
 unfold mvB
 by_cases h1 : t = t' <;> by_cases h2 : n = n' <;> simp [h1, h2]
theorem zvr (t n t' n' : Int) (w : World) : (binOp .neq 42 (.agg #[.int .i64 t, .int .i64 n]) (.agg #[.int .i64 t', .int .i64 n'])).run Tryz.prog w = .ok (.bool (!mvB t n t' n')) w := by
 have h := zvq t n t' n' w
 rw [run_eql_struct] at h
 rw [run_neq_struct]
 generalize (Op.equalIn 10000 42 (.agg #[.int .i64 t, .int .i64 n]) (.agg #[.int .i64 t', .int .i64 n'])).run Tryz.prog w = r at h
 cases r with
 | ok b w1 =>
   simp only [Result.andThen_ok, Result.ok.injEq, Value.bool.injEq] at h
   obtain ⟨rfl, rfl⟩ := h
   rfl
 | _ => simp [Result.andThen] at h
set_option maxHeartbeats 4000000 in
theorem zjs (a1 : Option Addr) (L c1 : Nat) (a2 : Option Addr) (n c2 : Nat) (aw : Option Addr) (wl cw : Nat) (sm toh top : Int) (cyc : Bool) (sn old cp sr : Int) (b4 k : Nat) (fa de sh : Bool) (st et en sp : Int) (ao : Option Addr) (m co : Nat) (y : Nat -> Int) (w : World) (hr : SlF w.heap.size w (.slice (some ⟨b4, 0, none⟩) k k) k (2 * k) (fun i => .int .i64 (y i))) (hk : k <= 1048576) :
 Calls Tryz.prog 36 #[.agg #[.slice a1 L c1, .slice a2 n c2, .slice aw wl cw, .int .i64 sm, .int .i64 toh, .int .i64 top, .bool cyc, .int .i64 sn, .int .i64 old, .int .i64 cp, .int .i64 sr, .slice (some ⟨b4, 0, none⟩) k k, .bool fa, .bool de, .bool sh, .int .i64 st, .int .i64 et, .int .i64 en, .int .i64 sp, .slice ao m co]] w fun e w' => zfi (zmu k y) w e w' := by
 have B0 : Below w.heap.size w (w.alloc (.cells #[.slice a1 L c1, .slice a2 n c2, .slice aw wl cw, .int .i64 sm, .int .i64 toh, .int .i64 top, .bool cyc, .int .i64 sn, .int .i64 old, .int .i64 cp, .int .i64 sr, .slice (some ⟨b4, 0, none⟩) k k, .bool fa, .bool de, .bool sh, .int .i64 st, .int .i64 et, .int .i64 en, .int .i64 sp, .slice ao m co] 44)) := (Below.refl _ _).alloc (Nat.le_refl _) _
 have hk' : (k : Int) <= 1048576 := by omega
 have HR : Hid (SlF w.heap.size w (.slice (some ⟨b4, 0, none⟩) k k) k (2 * k) (fun i => .int .i64 (y i))) := hr
 clear hr
 by_cases h6 : k = 6
 rotate_left
 · have h6' : ((k : Int) != 6) = true := by simp; omega
   go_enter Tryz.func36, Tryz.ntmps36
   go_wp2
   go_ret
   exact ⟨false, rfl, ⟨fun h => (by cases h), fun h => absurd h.1 h6⟩, B0⟩
 subst h6
 go_enter Tryz.func36, Tryz.ntmps36
 go_wp2
 go_loopw [15] (fun i wr => ∃ j : Nat, j <= 5 /\ i = .int .i64 j /\ Hid (∀ p, 1 <= p -> p < j + 1 -> y (2 * p) = 0 /\ y (2 * p + 1) = 0) /\ Below w.heap.size w wr) (fun i _ => 5 - (intOf i).toNat)
 case atStart => exact ⟨0, Nat.zero_le _, rfl, fun p h1 h2 => by omega, B0⟩
 case round =>
  obtain ⟨j, hj, rfl, HP, hF⟩ := hrel
  by_cases hlt : j < 5
  · have hlt' : (j : Int) < 5 := by omega
    obtain ⟨br, offr, cap', hv, _, lbr, hcr⟩ := SlF.parts (HR.out.below hF (Nat.le_refl _)) (k := 0) (by omega)
    simp only [Value.slice.injEq, Option.some.injEq, Addr.mk.injEq] at hv
    obtain ⟨⟨rfl, rfl, _⟩, _, _⟩ := hv
    have q1 : wr.cell? ⟨b4, 2 + j * 2, none⟩ = some (.int .i64 (y (2 * (j + 1)))) := by have := hcr (2 * (j + 1)) (by omega); rw [Nat.zero_add, show 2 * (j + 1) = 2 + j * 2 by omega] at this; rw [this, show 2 + j * 2 = 2 * (j + 1) by omega]
    have q2 : wr.cell? ⟨b4, 2 + j * 2 + 1, none⟩ = some (.int .i64 (y (2 * (j + 1) + 1))) := by have := hcr (2 * (j + 1) + 1) (by omega); rw [Nat.zero_add, show 2 * (j + 1) + 1 = 2 + j * 2 + 1 by omega] at this; rw [this, show 2 + j * 2 + 1 = 2 * (j + 1) + 1 by omega]
    have NX : Hid (zmu 6 y -> y (2 * (j + 1)) = 0 /\ y (2 * (j + 1) + 1) = 0) := fun h => h.2 (j + 1) (by omega) (by omega)
    have NY : Hid (y (2 * (j + 1)) = 0 -> y (2 * (j + 1) + 1) = 0 -> ∀ p, 1 <= p -> p < j + 1 + 1 -> y (2 * p) = 0 /\ y (2 * p + 1) = 0) := fun h1 h2 p p1 p2 => by
     by_cases e : p = j + 1
     · subst e; exact ⟨h1, h2⟩
     · exact HP.out p p1 (by omega)
    generalize y (2 * (j + 1)) = ta at q1 NX NY
    generalize y (2 * (j + 1) + 1) = na at q2 NX NY
    have BX : Below w.heap.size w (wr.alloc (.cells #[.int .i64 ta, .int .i64 na] 42)) := hF.alloc hF.size _
    have hne := zvr ta na 0 0
    clear hcr HR
    by_cases g : ta = 0 /\ na = 0
    · obtain ⟨rfl, rfl⟩ := g
      have HV : Hid (∀ p, 1 <= p -> p < j + 1 + 1 -> y (2 * p) = 0 /\ y (2 * p + 1) = 0) := NY.out rfl rfl
      have hq : mvB 0 0 0 0 = true := rfl
      rw [hq] at hne
      go_wp2
      go_roundw
      case rel => exact ⟨j + 1, by omega, by go_num, HV, BX⟩
      case measure => simp [intOf]; omega
    · have HV : Hid (¬ zmu 6 y) := fun h => g (NX.out h)
      have hq : mvB ta na 0 0 = false := by unfold mvB; simp; omega
      rw [hq] at hne
      go_wp2
      go_ret
      exact ⟨false, rfl, ⟨fun h => (by cases h), fun h => absurd h HV.out⟩, BX⟩
  · have hge : (5 : Int) <= (j : Int) := by omega
    go_wp2
    go_ret
    exact ⟨true, rfl, ⟨fun _ => ⟨rfl, fun i i1 i2 => HP.out i i1 (by omega)⟩, fun _ => rfl⟩, hF⟩
set_option maxHeartbeats 4000000 in
theorem zih (b1 b2 b3 b4 b5 : Nat) (L n m : Nat) (ws : List Int) (sm toh top : Int) (cyc : Bool) (sn old cp sr : Int) (rs : List (Int × Int)) (fa de sh : Bool) (st et en sp : Int) (X : Nat -> PtD) (s : Nat -> ByteArray) (y : Nat -> Int) (u : Nat -> ByteArray) (w : World) (h : McF w (.slice (some ⟨b1, 0, none⟩) L L) (.slice (some ⟨b2, 0, none⟩) n n) (.slice (some ⟨b3, 0, none⟩) ws.length ws.length) (.slice (some ⟨b4, 0, none⟩) rs.length rs.length) (.slice (some ⟨b5, 0, none⟩) m m) L X n s ws rs.length y m u) (hL : L <= 1048576) (hn : n <= 1048576) (hX : ∀ j, j < L -> PLe (X j) 1048576) (hws : ws.length <= 1048576) (hrs : rs.length <= 1048576) (hm : m <= 1048576) (hR : ∀ j, j < L -> PLr (X j)) (hsz : ∀ j, j < n -> (s j).size <= 9223372036854775807) (hw : zg ws) :
 Calls Tryz.prog 19 #[.agg #[.slice (some ⟨b1, 0, none⟩) L L, .slice (some ⟨b2, 0, none⟩) n n, .slice (some ⟨b3, 0, none⟩) ws.length ws.length, .int .i64 sm, .int .i64 toh, .int .i64 top, .bool cyc, .int .i64 sn, .int .i64 old, .int .i64 cp, .int .i64 sr, .slice (some ⟨b4, 0, none⟩) rs.length rs.length, .bool fa, .bool de, .bool sh, .int .i64 st, .int .i64 et, .int .i64 en, .int .i64 sp, .slice (some ⟨b5, 0, none⟩) m m]] w fun e w' => zfi (zbu L X n s ws sm toh top cyc sn old cp sr y rs.length st sp m) w e w' := by
 have B0 : Below w.heap.size w (w.alloc (.cells #[.slice (some ⟨b1, 0, none⟩) L L, .slice (some ⟨b2, 0, none⟩) n n, .slice (some ⟨b3, 0, none⟩) ws.length ws.length, .int .i64 sm, .int .i64 toh, .int .i64 top, .bool cyc, .int .i64 sn, .int .i64 old, .int .i64 cp, .int .i64 sr, .slice (some ⟨b4, 0, none⟩) rs.length rs.length, .bool fa, .bool de, .bool sh, .int .i64 st, .int .i64 et, .int .i64 en, .int .i64 sp, .slice (some ⟨b5, 0, none⟩) m m] 44)) := (Below.refl _ _).alloc (Nat.le_refl _) _
 have H : Hid (McF w (.slice (some ⟨b1, 0, none⟩) L L) (.slice (some ⟨b2, 0, none⟩) n n) (.slice (some ⟨b3, 0, none⟩) ws.length ws.length) (.slice (some ⟨b4, 0, none⟩) rs.length rs.length) (.slice (some ⟨b5, 0, none⟩) m m) L X n s ws rs.length y m u) := h
 have HX : Hid (∀ j, j < L -> PLe (X j) 1048576) := hX
 have HSZ : Hid (∀ j, j < n -> (s j).size <= 9223372036854775807) := hsz
 have HW : Hid (zg ws) := hw
 have NI : Hid (zbu L X n s ws sm toh top cyc sn old cp sr y rs.length st sp m ↔ _) := zt1
 have hm' : (m : Int) <= 1048576 := by omega
 clear h hX hR hsz hw
 by_cases c1 : 0 <= st
 rotate_left
 · have c1' : st < 0 := by omega
   go_enter Tryz.func19, Tryz.ntmps19
   go_wp2
   go_ret
   exact ⟨false, rfl, ⟨fun h => (by cases h), fun h => by have := (NI.out.1 h).1; omega⟩, B0⟩
 by_cases c2 : st <= 2
 rotate_left
 · have c2' : 2 < st := by omega
   go_enter Tryz.func19, Tryz.ntmps19
   go_wp2
   go_ret
   exact ⟨false, rfl, ⟨fun h => (by cases h), fun h => by have := (NI.out.1 h).2.1; omega⟩, B0⟩
 by_cases c3 : 0 <= sp
 rotate_left
 · have c3' : sp < 0 := by omega
   go_enter Tryz.func19, Tryz.ntmps19
   go_wp2
   go_ret
   exact ⟨false, rfl, ⟨fun h => (by cases h), fun h => by have := (NI.out.1 h).2.2.1; omega⟩, B0⟩
 by_cases c4 : (m : Int) <= 200
 rotate_left
 · have c4' : 200 < (m : Int) := by omega
   go_enter Tryz.func19, Tryz.ntmps19
   go_wp2
   go_ret
   exact ⟨false, rfl, ⟨fun h => (by cases h), fun h => by have := (NI.out.1 h).2.2.2.1; omega⟩, B0⟩
 have HLD := zde rfl (zd.new w 44 #[.slice (some ⟨b1, 0, none⟩) L L, .slice (some ⟨b2, 0, none⟩) n n, .slice (some ⟨b3, 0, none⟩) ws.length ws.length, .int .i64 sm, .int .i64 toh, .int .i64 top, .bool cyc, .int .i64 sn, .int .i64 old, .int .i64 cp, .int .i64 sr, .slice (some ⟨b4, 0, none⟩) rs.length rs.length, .bool fa, .bool de, .bool sh, .int .i64 st, .int .i64 et, .int .i64 en, .int .i64 sp, .slice (some ⟨b5, 0, none⟩) m m]).cell
 go_enter Tryz.func19, Tryz.ntmps19
 go_wp2_with (refine zaz rfl _ _ rfl _ HLD ?_)
 clear HLD
 refine (zjs (some ⟨b1, 0, none⟩) L L (some ⟨b2, 0, none⟩) n n (some ⟨b3, 0, none⟩) ws.length ws.length sm toh top cyc sn old cp sr b4 rs.length fa de sh st et en sp (some ⟨b5, 0, none⟩) m m y _ (H.out.below B0).rt hrs).mono ?_
 rintro e w1 ⟨q, rfl, hq, d1⟩
 have X0 := (zd.new w 44 #[.slice (some ⟨b1, 0, none⟩) L L, .slice (some ⟨b2, 0, none⟩) n n, .slice (some ⟨b3, 0, none⟩) ws.length ws.length, .int .i64 sm, .int .i64 toh, .int .i64 top, .bool cyc, .int .i64 sn, .int .i64 old, .int .i64 cp, .int .i64 sr, .slice (some ⟨b4, 0, none⟩) rs.length rs.length, .bool fa, .bool de, .bool sh, .int .i64 st, .int .i64 et, .int .i64 en, .int .i64 sp, .slice (some ⟨b5, 0, none⟩) m m]).below d1 (by simp)
 have B1 := zb B0 d1
 have k0 := X0.cell
 have z1 := X0.lt
 have HQ1 : Hid (q = true ↔ zmu rs.length y) := hq
 clear d1 hq B0
 cases q with
 | false =>
   go_wp2
   go_ret
   exact ⟨false, rfl, ⟨fun h => (by cases h), fun h => absurd (HQ1.out.2 (NI.out.1 h).2.2.2.2.1) (by simp)⟩, B1⟩
 | true =>
 go_wp2_with fail
 refine (zjc (some ⟨b1, 0, none⟩) L L (some ⟨b2, 0, none⟩) n n X s _ w1 (H.out.below B1).md (Nat.le_refl _) hL hn HX.out HSZ.out).mono ?_
 rintro e w2 ⟨q, rfl, hq, d2⟩
 have X2 := X0.below d2 z1
 have B2 := zb B1 d2
 clear k0 X0 z1
 have k0 := X2.cell
 have HQ2 : Hid (q = true ↔ MOk L X n s) := hq
 clear d2 hq B1
 cases q with
 | false =>
   go_wp2
   go_ret
   exact ⟨false, rfl, ⟨fun h => (by cases h), fun h => absurd (HQ2.out.2 (NI.out.1 h).2.2.2.2.2.1) (by simp)⟩, B2⟩
 | true =>
 go_wp2_with fail
 refine (zjg (some ⟨b3, 0, none⟩) ws.length ws sm toh top cyc sn old cp sr (some ⟨b4, 0, none⟩) rs.length rs y _ w2 (H.out.below B2).wd (Nat.le_refl _) hws HW.out (H.out.below B2).rt hrs).mono ?_
 rintro e w3 ⟨q, rfl, hq, d3⟩
 have B3 := zb B2 d3
 have HQ3 : Hid (q = true ↔ zev ws sm toh top cyc sn old cp sr y rs.length) := hq
 clear d3 hq B2 k0
 go_wp2
 go_ret
 exact ⟨q, rfl, ⟨fun h => NI.out.2 ⟨c1, c2, c3, by omega, HQ1.out.1 (by trivial), HQ2.out.1 (by trivial), HQ3.out.1 h⟩, fun h => HQ3.out.2 (NI.out.1 h).2.2.2.2.2.2⟩, B3⟩
set_option maxHeartbeats 4000000 in
theorem zii (b1 b2 b3 b4 b5 : Nat) (L n m : Nat) (ws : List Int) (sm toh top : Int) (cyc : Bool) (sn old cp sr : Int) (rs : List (Int × Int)) (fa de sh : Bool) (st et en sp : Int) (X : Nat -> PtD) (s : Nat -> ByteArray) (y : Nat -> Int) (u : Nat -> ByteArray) (w : World) (h : McF w (.slice (some ⟨b1, 0, none⟩) L L) (.slice (some ⟨b2, 0, none⟩) n n) (.slice (some ⟨b3, 0, none⟩) ws.length ws.length) (.slice (some ⟨b4, 0, none⟩) rs.length rs.length) (.slice (some ⟨b5, 0, none⟩) m m) L X n s ws rs.length y m u) (hL : L <= 1048576) (hn : n <= 1048576) (hX : ∀ j, j < L -> PLe (X j) 1048576) (hws : ws.length <= 1048576) (hrs : rs.length <= 1048576) (hm : m <= 1048576) (hR : ∀ j, j < L -> PLr (X j)) (hsz : ∀ j, j < n -> (s j).size <= 9223372036854775807) (hw : zg ws) :
 Calls Tryz.prog 12 #[.agg #[.slice (some ⟨b1, 0, none⟩) L L, .slice (some ⟨b2, 0, none⟩) n n, .slice (some ⟨b3, 0, none⟩) ws.length ws.length, .int .i64 sm, .int .i64 toh, .int .i64 top, .bool cyc, .int .i64 sn, .int .i64 old, .int .i64 cp, .int .i64 sr, .slice (some ⟨b4, 0, none⟩) rs.length rs.length, .bool fa, .bool de, .bool sh, .int .i64 st, .int .i64 et, .int .i64 en, .int .i64 sp, .slice (some ⟨b5, 0, none⟩) m m]] w fun e w' => zfi (zbu L X n s ws sm toh top cyc sn old cp sr y rs.length st sp m) w e w' := by
 have B0 : Below w.heap.size w (w.alloc (.cells #[.slice (some ⟨b1, 0, none⟩) L L, .slice (some ⟨b2, 0, none⟩) n n, .slice (some ⟨b3, 0, none⟩) ws.length ws.length, .int .i64 sm, .int .i64 toh, .int .i64 top, .bool cyc, .int .i64 sn, .int .i64 old, .int .i64 cp, .int .i64 sr, .slice (some ⟨b4, 0, none⟩) rs.length rs.length, .bool fa, .bool de, .bool sh, .int .i64 st, .int .i64 et, .int .i64 en, .int .i64 sp, .slice (some ⟨b5, 0, none⟩) m m] 44)) := (Below.refl _ _).alloc (Nat.le_refl _) _
 have H : Hid (McF w (.slice (some ⟨b1, 0, none⟩) L L) (.slice (some ⟨b2, 0, none⟩) n n) (.slice (some ⟨b3, 0, none⟩) ws.length ws.length) (.slice (some ⟨b4, 0, none⟩) rs.length rs.length) (.slice (some ⟨b5, 0, none⟩) m m) L X n s ws rs.length y m u) := h
 have HX : Hid (∀ j, j < L -> PLe (X j) 1048576) := hX
 have HRR : Hid (∀ j, j < L -> PLr (X j)) := hR
 have HSZ : Hid (∀ j, j < n -> (s j).size <= 9223372036854775807) := hsz
 have HW : Hid (zg ws) := hw
 have hm' : (m : Int) <= 1048576 := by omega
 have hr' : (rs.length : Int) <= 1048576 := by omega
 clear h hX hR hsz hw
 go_enter Tryz.func12, Tryz.ntmps12
 go_wp2_with fail
 refine (zjd (some ⟨b1, 0, none⟩) L L (some ⟨b2, 0, none⟩) n n X s _ _ (H.out.below B0).md (Nat.le_refl _) hL hn HX.out HRR.out HSZ.out).mono ?_
 rintro e w1 ⟨q, rfl, hq, d1⟩
 have X0 := (zd.new w 44 #[.slice (some ⟨b1, 0, none⟩) L L, .slice (some ⟨b2, 0, none⟩) n n, .slice (some ⟨b3, 0, none⟩) ws.length ws.length, .int .i64 sm, .int .i64 toh, .int .i64 top, .bool cyc, .int .i64 sn, .int .i64 old, .int .i64 cp, .int .i64 sr, .slice (some ⟨b4, 0, none⟩) rs.length rs.length, .bool fa, .bool de, .bool sh, .int .i64 st, .int .i64 et, .int .i64 en, .int .i64 sp, .slice (some ⟨b5, 0, none⟩) m m]).below d1 (by simp)
 have B1 := zb B0 d1
 have k0 := X0.cell
 have z1 := X0.lt
 have HQ1 : Hid (q = true ↔ MOk L X n s) := hq
 clear d1 hq B0
 cases q with
 | false =>
   go_wp2
   go_ret
   exact ⟨false, rfl, ⟨fun h => (by cases h), fun h => absurd (HQ1.out.2 h.1) (by simp)⟩, B1⟩
 | true =>
 go_wp2_with fail
 refine (zjf (some ⟨b3, 0, none⟩) ws.length ws sm toh top cyc sn old cp sr (some ⟨b4, 0, none⟩) rs.length rs y _ w1 (H.out.below B1).wd hws HW.out (H.out.below B1).rt hrs).mono ?_
 rintro e w2 ⟨q, rfl, hq, d2⟩
 have X2 := X0.below d2 z1
 have B2 := zb B1 d2
 clear k0 X0 z1
 have k0 := X2.cell
 have z2 := X2.lt
 have HQ2 : Hid (q = true ↔ zev ws sm toh top cyc sn old cp sr y rs.length) := hq
 clear d2 hq B1
 cases q with
 | false =>
   go_wp2
   go_ret
   exact ⟨false, rfl, ⟨fun h => (by cases h), fun h => absurd (HQ2.out.2 h.2.1) (by simp)⟩, B2⟩
 | true =>
 by_cases c0 : rs.length = 6
 rotate_left
 · have c0' : ((rs.length : Int) != 6) = true := by simp; omega
   go_wp2
   go_ret
   exact ⟨false, rfl, ⟨fun h => (by cases h), fun h => absurd h.2.2.1 c0⟩, B2⟩
 have c0' : ((rs.length : Int) != 6) = false := by simp; omega
 by_cases c1 : 0 <= st /\ st <= 2
 rotate_left
 · go_wp2_with (go_at_call 31; refine (zat _ _ _ _ c1).mono ?_; rintro e w' ⟨rfl, rfl⟩)
   go_ret
   exact ⟨false, rfl, ⟨fun h => (by cases h), fun h => absurd ⟨h.2.2.2.1, h.2.2.2.2.1⟩ c1⟩, B2⟩
 by_cases c3 : 0 <= sp
 rotate_left
 · have c3' : sp < 0 := by omega
   go_wp2_with (go_at_call 31; refine (zaa _ _ _ _ c1).mono ?_; rintro e w' ⟨rfl, rfl⟩)
   go_ret
   exact ⟨false, rfl, ⟨fun h => (by cases h), fun h => by have := h.2.2.2.2.2.1; omega⟩, B2⟩
 by_cases c4 : (m : Int) <= 200
 rotate_left
 · have c4' : 200 < (m : Int) := by omega
   go_wp2_with (go_at_call 31; refine (zaa _ _ _ _ c1).mono ?_; rintro e w' ⟨rfl, rfl⟩)
   go_ret
   exact ⟨false, rfl, ⟨fun h => (by cases h), fun h => by have := h.2.2.2.2.2.2.1; omega⟩, B2⟩
 go_wp2_with (go_at_call 31; refine (zaa _ _ _ _ c1).mono ?_; rintro e wz ⟨rfl, hz⟩; subst wz)
 have C0 : Hid (rs.length = 6) := c0
 have c6 : (6 : Int) <= (rs.length : Int) := by omega
 clear c0
 go_loopw [3] (fun i wr => ∃ j : Nat, 1 <= j /\ j <= 6 /\ i = .int .i64 j /\ Hid (∀ p, 1 <= p -> p < j -> y (2 * p) = 0) /\ wr = w2) (fun i _ => 6 - (intOf i).toNat)
 case atStart => exact ⟨1, by omega, by omega, rfl, fun p h1 h2 => by omega, rfl⟩
 case round =>
  obtain ⟨j, hj1, hj, rfl, HP, rfl⟩ := hrel
  by_cases hlt : j < 6
  · have hlt' : (j : Int) < 6 := by omega
    have hlt2 : (j : Int) < (rs.length : Int) := by omega
    obtain ⟨br, offr, cap', hv, _, lbr, hcr⟩ := SlF.parts (H.out.rt.below B2 (Nat.le_refl _)) (k := 0) (by have := C0.out; omega)
    simp only [Value.slice.injEq, Option.some.injEq, Addr.mk.injEq] at hv
    obtain ⟨⟨rfl, rfl, _⟩, _, _⟩ := hv
    have q1 : wr.cell? ⟨b4, 0 + j * 2, none⟩ = some (.int .i64 (y (2 * j))) := by rw [Nat.mul_comm j 2]; exact hcr (2 * j) (by have := C0.out; omega)
    have q1' : wr.cell? ⟨b4, j * 2, none⟩ = some (.int .i64 (y (2 * j))) := by rw [<- q1, Nat.zero_add]
    have NX : Hid (zbu L X n s ws sm toh top cyc sn old cp sr y rs.length st sp m -> y (2 * j) = 0) := fun h => h.2.2.2.2.2.2.2 j hj1 hlt
    have NY : Hid (y (2 * j) = 0 -> ∀ p, 1 <= p -> p < j + 1 -> y (2 * p) = 0) := fun h1 p p1 p2 => by
     by_cases e : p = j
     · subst e; exact h1
     · exact HP.out p p1 (by omega)
    generalize y (2 * j) = ta at q1 q1' NX NY
    clear hcr
    by_cases g : ta = 0
    · subst g
      have HV := NY.out rfl
      have HV' : Hid (∀ p, 1 <= p -> p < j + 1 -> y (2 * p) = 0) := HV
      clear HV
      go_wp2
      go_roundw
      case rel => exact ⟨j + 1, by omega, by omega, by go_num, HV', by first | rfl | trivial⟩
      case measure => simp [intOf]; omega
    · have HV : Hid (¬ zbu L X n s ws sm toh top cyc sn old cp sr y rs.length st sp m) := fun h => g (NX.out h)
      have g' : (ta != 0) = true := by simp [g]
      clear g
      go_wp2
      go_ret
      exact ⟨false, rfl, ⟨fun h => (by cases h), fun h => absurd h HV.out⟩, B2⟩
  · have hge : (6 : Int) <= (j : Int) := by omega
    go_wp2
    go_ret
    exact ⟨true, rfl, ⟨fun _ => ⟨HQ1.out.1 (by trivial), HQ2.out.1 (by trivial), C0.out, c1.1, c1.2, c3, by omega, fun i i1 i2 => HP.out i i1 (by omega)⟩, fun _ => rfl⟩, B2⟩
def DpA (ok : Prop) (y0 y1 : Int) (ws : List Int) (dd : Int) : Prop := (¬ (ok /\ y0 = 6 /\ 3 <= za ws (y1.toNat + 3)) -> dd = 0) /\ (ok /\ y0 = 6 /\ 3 <= za ws (y1.toNat + 3) -> dd = 1 + (zba ws y1.toNat 60 (za ws (y1.toNat + 3)).toNat : Int))
theorem DpA.same {ok : Prop} {y0 y1 : Int} {ws : List Int} {d d' : Int} (h : DpA ok y0 y1 ws d) (h' : DpA ok y0 y1 ws d') : d = d' := by
 by_cases g : ok /\ y0 = 6 /\ 3 <= za ws (y1.toNat + 3)
 · rw [h.2 g, h'.2 g]
 · rw [h.1 g, h'.1 g]
theorem DpA.some_ {ok : Prop} {y0 y1 : Int} {ws : List Int} : ∃ d, DpA ok y0 y1 ws d := by
 by_cases g : ok /\ y0 = 6 /\ 3 <= za ws (y1.toNat + 3)
 · exact ⟨_, fun h => absurd g h, fun _ => rfl⟩
 · exact ⟨0, fun _ => rfl, fun h => absurd h g⟩
theorem DpA.no {ok : Prop} {y0 y1 : Int} {ws : List Int} (h : ¬ ok) : DpA ok y0 y1 ws 0 := ⟨fun _ => rfl, fun g => absurd g.1 h⟩
theorem DpA.other {ok : Prop} {y0 y1 : Int} {ws : List Int} (h : ¬ y0 = 6) : DpA ok y0 y1 ws 0 := ⟨fun _ => rfl, fun g => absurd g.2.1 h⟩
theorem DpA.of {ok : Prop} {y0 y1 : Int} {ws : List Int} {N : Nat} {dd : Int} (hN : y1 = (N : Int)) (e1 : za ws (N + 3) < 3 -> dd = 0) (hy : y0 = 6) (hok : ok) (e2 : 3 <= za ws (N + 3) -> dd = 1 + (zba ws N 60 (za ws (N + 3)).toNat : Int)) : DpA ok y0 y1 ws dd := by
 subst hN
 unfold DpA
 rw [Int.toNat_natCast]
 exact ⟨fun g => e1 (by by_cases q : 3 <= za ws (N + 3); exact absurd ⟨hok, hy, q⟩ g; omega), fun g => e2 g.2.2⟩
theorem zjb {w : World} {b k : Nat} {y : Nat -> Int} (h : SlF w.heap.size w (.slice (some ⟨b, 0, none⟩) k k) k (2 * k) (fun i => .int .i64 (y i))) (hk : 0 < k) : b < w.heap.size /\ w.cell? ⟨b, 0, none⟩ = some (.int .i64 (y 0)) /\ w.cell? ⟨b, 1, none⟩ = some (.int .i64 (y 1)) := by
 obtain ⟨br, offr, cap', hv, _, lbr, hcr⟩ := SlF.parts h (k := 0) (by omega)
 simp only [Value.slice.injEq, Option.some.injEq, Addr.mk.injEq] at hv
 obtain ⟨⟨rfl, rfl, _⟩, _, _⟩ := hv
 exact ⟨lbr, hcr 0 (by omega), by simpa using hcr 1 (by omega)⟩
theorem zjr {P : Program} {w : World} {ops : Array Oper} {rest : List Oper} {o : Oper} {a : Act} {Q : Exit -> Act -> World -> Prop} (hw : Region.wanted o (yielded ops a.tmps) = true) (t : TypeId) (x : Operand) (ho : o.op = .load t x) (v : Value) (hr : (Instr.loadAt t (a.eval x)).run P w = .ok v w) (h : wpList P ops Q rest (a.put o.dst v) w) : wpList P ops Q (o :: rest) a w := by
 refine BigFrame.wpList_want hw fun K hK => ?_
 unfold Oper.wp execOp
 simp only [ho, Sem.run_bind, Sem.run_pure, Result.andThen_ok, hr]
 exact hK _ _ h
set_option maxHeartbeats 4000000 in
theorem zkd (b1 b2 b3 b4 b5 : Nat) (L n m : Nat) (ws : List Int) (sm toh top : Int) (cyc : Bool) (sn old cp sr : Int) (rs : List (Int × Int)) (fa de sh : Bool) (st et en sp : Int) (X : Nat -> PtD) (s : Nat -> ByteArray) (y : Nat -> Int) (u : Nat -> ByteArray) (w : World) (h : McF w (.slice (some ⟨b1, 0, none⟩) L L) (.slice (some ⟨b2, 0, none⟩) n n) (.slice (some ⟨b3, 0, none⟩) ws.length ws.length) (.slice (some ⟨b4, 0, none⟩) rs.length rs.length) (.slice (some ⟨b5, 0, none⟩) m m) L X n s ws rs.length y m u) (hL : L <= 1048576) (hn : n <= 1048576) (hX : ∀ j, j < L -> PLe (X j) 1048576) (hws : ws.length <= 1048576) (hrs : rs.length <= 1048576) (hm : m <= 1048576) (hR : ∀ j, j < L -> PLr (X j)) (hsz : ∀ j, j < n -> (s j).size <= 9223372036854775807) (hw : zg ws) :
 Calls Tryz.prog 5 #[.agg #[.slice (some ⟨b1, 0, none⟩) L L, .slice (some ⟨b2, 0, none⟩) n n, .slice (some ⟨b3, 0, none⟩) ws.length ws.length, .int .i64 sm, .int .i64 toh, .int .i64 top, .bool cyc, .int .i64 sn, .int .i64 old, .int .i64 cp, .int .i64 sr, .slice (some ⟨b4, 0, none⟩) rs.length rs.length, .bool fa, .bool de, .bool sh, .int .i64 st, .int .i64 et, .int .i64 en, .int .i64 sp, .slice (some ⟨b5, 0, none⟩) m m]] w fun e w' => ∃ dd : Int, e = .returned (.int .i64 dd) /\ DpA (zbu L X n s ws sm toh top cyc sn old cp sr y rs.length st sp m) (y 0) (y 1) ws dd /\ Below w.heap.size w w' := by
 have B0 : Below w.heap.size w (w.alloc (.cells #[.slice (some ⟨b1, 0, none⟩) L L, .slice (some ⟨b2, 0, none⟩) n n, .slice (some ⟨b3, 0, none⟩) ws.length ws.length, .int .i64 sm, .int .i64 toh, .int .i64 top, .bool cyc, .int .i64 sn, .int .i64 old, .int .i64 cp, .int .i64 sr, .slice (some ⟨b4, 0, none⟩) rs.length rs.length, .bool fa, .bool de, .bool sh, .int .i64 st, .int .i64 et, .int .i64 en, .int .i64 sp, .slice (some ⟨b5, 0, none⟩) m m] 44)) := (Below.refl _ _).alloc (Nat.le_refl _) _
 have HLD := zde rfl (zd.new w 44 #[.slice (some ⟨b1, 0, none⟩) L L, .slice (some ⟨b2, 0, none⟩) n n, .slice (some ⟨b3, 0, none⟩) ws.length ws.length, .int .i64 sm, .int .i64 toh, .int .i64 top, .bool cyc, .int .i64 sn, .int .i64 old, .int .i64 cp, .int .i64 sr, .slice (some ⟨b4, 0, none⟩) rs.length rs.length, .bool fa, .bool de, .bool sh, .int .i64 st, .int .i64 et, .int .i64 en, .int .i64 sp, .slice (some ⟨b5, 0, none⟩) m m]).cell
 have HM : Hid (Calls _ _ _ _ _) := zii b1 b2 b3 b4 b5 L n m ws sm toh top cyc sn old cp sr rs fa de sh st et en sp X s y u _ (h.below B0) hL hn hX hws hrs hm hR hsz hw
 have HF : Hid (McF w (.slice (some ⟨b1, 0, none⟩) L L) (.slice (some ⟨b2, 0, none⟩) n n) (.slice (some ⟨b3, 0, none⟩) ws.length ws.length) (.slice (some ⟨b4, 0, none⟩) rs.length rs.length) (.slice (some ⟨b5, 0, none⟩) m m) L X n s ws rs.length y m u) := h
 have HW : Hid (zg ws) := hw
 clear h hX hR hsz hw
 go_enter Tryz.func5, Tryz.ntmps5
 go_wp2_with (refine zaz rfl _ _ rfl _ HLD ?_)
 refine HM.out.mono ?_
 rintro e w1 ⟨q, rfl, hq, d1⟩
 have X1 := (zd.new w 44 #[.slice (some ⟨b1, 0, none⟩) L L, .slice (some ⟨b2, 0, none⟩) n n, .slice (some ⟨b3, 0, none⟩) ws.length ws.length, .int .i64 sm, .int .i64 toh, .int .i64 top, .bool cyc, .int .i64 sn, .int .i64 old, .int .i64 cp, .int .i64 sr, .slice (some ⟨b4, 0, none⟩) rs.length rs.length, .bool fa, .bool de, .bool sh, .int .i64 st, .int .i64 et, .int .i64 en, .int .i64 sp, .slice (some ⟨b5, 0, none⟩) m m]).below d1 (by simp)
 have B1 := zb B0 d1
 have HQ : Hid (q = true ↔ zbu L X n s ws sm toh top cyc sn old cp sr y rs.length st sp m) := hq
 clear d1 hq B0 HM HLD
 cases q with
 | false =>
   go_wp2
   go_ret
   exact ⟨0, rfl, DpA.no (fun hk => absurd (HQ.out.2 hk) (by simp)), B1⟩
 | true =>
 have hok : zbu L X n s ws sm toh top cyc sn old cp sr y rs.length st sp m := HQ.out.1 rfl
 have HK6 : Hid (rs.length = 6) := hok.2.2.1
 have hk' : (0 : Int) < (rs.length : Int) := by have := HK6.out; omega
 have hk0 : 0 < rs.length := by omega
 have k11 := X1.cell 11
 simp at k11
 obtain ⟨l4, r0, r1⟩ := zjb (HF.out.below B1).rt hk0
 have z1 := X1.lt
 by_cases h6 : y 0 = 6
 rotate_left
 · have HN : Hid (DpA (zbu L X n s ws sm toh top cyc sn old cp sr y rs.length st sp m) (y 0) (y 1) ws 0) := DpA.other h6
   have h6' : (y 0 != 6) = true := by simpa using h6
   clear HQ hok HF
   obtain ⟨y0, hy0⟩ : ∃ z, z = y 0 := ⟨_, rfl⟩
   rw [<- hy0] at r0 h6'
   clear hy0 h6
   go_wp2
   go_ret
   exact ⟨0, rfl, HN.out, B1⟩
 obtain ⟨N, hN, hfit, w0, w60⟩ := zub HW.out hok.2.1 (i := 0) (by omega) (by simpa using h6)
 have hN1 : y 1 = (N : Int) := by simpa using hN
 have HD : Hid (∀ dd, (za ws (N + 3) < 3 -> dd = 0) -> (3 <= za ws (N + 3) -> dd = 1 + (zba ws N 60 (za ws (N + 3)).toNat : Int)) -> DpA (zbu L X n s ws sm toh top cyc sn old cp sr y rs.length st sp m) (y 0) (y 1) ws dd) := fun dd e1 e2 => DpA.of hN1 e1 h6 hok e2
 rw [h6] at r0
 rw [hN1] at r1
 have HV : Hid (McV w1 b3 b4 rs.length ws N) := ⟨(HF.out.below B1).wd, l4, r0, r1, hk0, hws, HW.out, hfit⟩
 obtain ⟨bb, hbb⟩ : ∃ bb : Nat, za ws (N + 3) = (bb : Int) := ⟨(za ws (N + 3)).toNat, by omega⟩
 have hwr : wrap64 (za ws (N + 3)) = (bb : Int) := by rw [hbb]; unfold wrap64; omega
 have HAT : Hid (∀ W, Below w1.heap.size w1 W -> Calls Tryz.prog 13 #[.agg #[.slice (some ⟨b1, 0, none⟩) L L, .slice (some ⟨b2, 0, none⟩) n n, .slice (some ⟨b3, 0, none⟩) ws.length ws.length, .int .i64 sm, .int .i64 toh, .int .i64 top, .bool cyc, .int .i64 sn, .int .i64 old, .int .i64 cp, .int .i64 sr, .slice (some ⟨b4, 0, none⟩) rs.length rs.length, .bool fa, .bool de, .bool sh, .int .i64 st, .int .i64 et, .int .i64 en, .int .i64 sp, .slice (some ⟨b5, 0, none⟩) m m], .int .i64 3] W fun e w' => e = .returned (.int .i64 (bb : Int)) /\ Below W.heap.size W w') := fun W hW => by
  have := zsq (some ⟨b1, 0, none⟩) L L (some ⟨b2, 0, none⟩) n n b3 b4 ws sm toh top cyc sn old cp sr rs.length fa de sh st et en sp (some ⟨b5, 0, none⟩) m m N 3 W (HV.out.below hW) (by omega)
  rw [hwr] at this
  exact this
 have HLK : Hid (∀ W (b : Nat), Below w1.heap.size w1 W -> 3 < b -> b <= 60 -> Calls Tryz.prog 14 #[.agg #[.slice (some ⟨b1, 0, none⟩) L L, .slice (some ⟨b2, 0, none⟩) n n, .slice (some ⟨b3, 0, none⟩) ws.length ws.length, .int .i64 sm, .int .i64 toh, .int .i64 top, .bool cyc, .int .i64 sn, .int .i64 old, .int .i64 cp, .int .i64 sr, .slice (some ⟨b4, 0, none⟩) rs.length rs.length, .bool fa, .bool de, .bool sh, .int .i64 st, .int .i64 et, .int .i64 en, .int .i64 sp, .slice (some ⟨b5, 0, none⟩) m m], .int .i64 b] W fun e w' => e = .returned (.tuple #[.int .i64 (lkL ws N b), .int .i64 (lkH ws N b), .bool (lkB ws N b)]) /\ Below W.heap.size W w') := fun W b hW h1 h2 => zm0 (some ⟨b1, 0, none⟩) L L (some ⟨b2, 0, none⟩) n n b3 b4 ws sm toh top cyc sn old cp sr rs.length fa de sh st et en sp (some ⟨b5, 0, none⟩) m m N b W (HV.out.below hW) h1 h2
 rw [hbb] at w0 w60
 have HD2 : Hid (((bb : Int) < 3 -> DpA (zbu L X n s ws sm toh top cyc sn old cp sr y rs.length st sp m) (y 0) (y 1) ws 0) /\ (3 <= bb -> DpA (zbu L X n s ws sm toh top cyc sn old cp sr y rs.length st sp m) (y 0) (y 1) ws (1 + (zba ws N 60 bb : Int)))) := ⟨fun h => HD.out 0 (fun _ => rfl) (fun g => by rw [hbb] at g; omega), fun h => HD.out _ (fun g => by rw [hbb] at g; omega) (fun _ => by rw [hbb, Int.toNat_natCast])⟩
 have HLD := zde rfl X1.cell
 clear hok HQ HF h6 hN hN1 HD hwr hbb HW HV hfit w0
 have n6 : ((6 : Int) != 6) = false := rfl
 go_wp2_with (first | refine zaz rfl _ _ rfl _ HLD ?_ | refine zjr (by rfl) _ _ rfl _ HLD ?_)
 clear HLD
 refine (HAT.out _ (Below.refl _ _)).mono ?_
 rintro e w2 ⟨rfl, d2⟩
 have X2 := X1.below d2 z1
 have z2 := X2.lt
 have B2 := zb B1 d2
 clear X1 z1 k11 r0 r1 l4
 by_cases hb : (bb : Int) < 3
 · have HE := HD2.out.1 hb
   have HE' : Hid (DpA (zbu L X n s ws sm toh top cyc sn old cp sr y rs.length st sp m) (y 0) (y 1) ws 0) := HE
   clear HE HD2
   go_wp2
   go_ret
   exact ⟨0, rfl, HE'.out, B2⟩
 have HE : Hid (DpA (zbu L X n s ws sm toh top cyc sn old cp sr y rs.length st sp m) (y 0) (y 1) ws (1 + (zba ws N 60 bb : Int))) := HD2.out.2 (by omega)
 have HLD := zde rfl X2.cell
 clear HD2
 go_wp2_with (refine zaz rfl _ _ rfl _ HLD ?_)
 clear HLD
 refine (HAT.out _ d2).mono ?_
 rintro e w3 ⟨rfl, d3⟩
 have X3 := X2.below d3 z2
 have z3 := X3.lt
 have B3 := zb B2 d3
 have E3 : Below w1.heap.size w1 w3 := zb d2 d3
 clear X2 z2 d2 d3 HAT B1 B2
 go_wp2_with fail
 go_loopw [3, 4] (fun u3 u4 wr => ∃ c b f : Nat, u3 = .int .i64 c /\ u4 = .int .i64 b /\ 3 <= b /\ c + b <= 61 /\ 1 <= c /\ b <= f /\ Hid (1 + zba ws N 60 bb = c + zba ws N f b) /\ Below w3.heap.size w3 wr) (fun _ u4 _ => (intOf u4).toNat)
 case atStart => exact ⟨1, bb, 60, rfl, rfl, by omega, by omega, by omega, by omega, rfl, Below.refl _ _⟩
 case round =>
  obtain ⟨c, b, f, rfl, rfl, h3, h61, h1, hf, HI, hF⟩ := hrel
  have BR := zb B3 hF
  by_cases g3 : b = 3
  · subst g3
    have HZ : Hid (DpA (zbu L X n s ws sm toh top cyc sn old cp sr y rs.length st sp m) (y 0) (y 1) ws (c : Int)) := by
     have e := HI.out
     rw [zgm (f := f) (b := 3) (by omega)] at e
     have e2 : (1 : Int) + (zba ws N 60 bb : Int) = (c : Int) := by omega
     have := HE.out
     rwa [e2] at this
    clear HE HI
    go_wp2
    go_ret
    exact ⟨c, rfl, HZ.out, BR⟩
  have g3' : (3 : Int) < (b : Int) := by omega
  have hc1 : (c : Int) + 1 <= 62 := by omega
  have XR := X3.below hF z3
  have HLD := zde rfl XR.cell
  have HL1 : Hid (Calls _ _ _ _ _) := HLK.out wr b (zb E3 hF) (by omega) (by omega)
  go_wp2_with (refine zaz rfl _ _ rfl _ HLD ?_)
  refine HL1.out.mono ?_
  rintro e w4 ⟨rfl, d4⟩
  have F4 := zb hF d4
  have B4 := zb BR d4
  clear HLD HL1 XR
  cases hlk : lkB ws N b with
  | false =>
    have HZ : Hid (DpA (zbu L X n s ws sm toh top cyc sn old cp sr y rs.length st sp m) (y 0) (y 1) ws (c : Int)) := by
     have e := HI.out
     rw [zgm (f := f) (b := b) (by simp [hlk])] at e
     have e2 : (1 : Int) + (zba ws N 60 bb : Int) = (c : Int) := by omega
     have := HE.out
     rwa [e2] at this
    clear HE HI
    go_wp2
    go_ret
    exact ⟨c, rfl, HZ.out, B4⟩
  | true =>
    obtain ⟨l, g, hl, l3, lb, lg, he⟩ := zkc hf (by omega) hlk
    have HJ : Hid (1 + zba ws N 60 bb = (c + 1) + zba ws N g l) := by
     have := HI.out
     rw [he] at this
     show 1 + zba ws N 60 bb = (c + 1) + zba ws N g l
     omega
    rw [hl]
    clear HE HI he hl
    go_wp2
    go_roundw
    case rel => exact ⟨c + 1, l, g, by go_num, rfl, l3, by omega, by omega, lg, HJ, F4⟩
    case measure => simp [intOf]; omega
set_option maxHeartbeats 4000000 in
theorem zky (b1 b2 b3 b4 b5 : Nat) (L n m : Nat) (ws : List Int) (sm toh top : Int) (cyc : Bool) (sn old cp sr : Int) (rs : List (Int × Int)) (fa de sh : Bool) (st et en sp : Int) (X : Nat -> PtD) (s : Nat -> ByteArray) (y : Nat -> Int) (u : Nat -> ByteArray) (w : World) (h : McF w (.slice (some ⟨b1, 0, none⟩) L L) (.slice (some ⟨b2, 0, none⟩) n n) (.slice (some ⟨b3, 0, none⟩) ws.length ws.length) (.slice (some ⟨b4, 0, none⟩) rs.length rs.length) (.slice (some ⟨b5, 0, none⟩) m m) L X n s ws rs.length y m u) (hL : L <= 1048576) (hn : n <= 1048576) (hX : ∀ j, j < L -> PLe (X j) 1048576) (hws : ws.length <= 1048576) (hrs : rs.length <= 1048576) (hm : m <= 1048576) (hR : ∀ j, j < L -> PLr (X j)) (hsz : ∀ j, j < n -> (s j).size <= 9223372036854775807) (hw : zg ws) :
 Calls Tryz.prog 7 #[.agg #[.slice (some ⟨b1, 0, none⟩) L L, .slice (some ⟨b2, 0, none⟩) n n, .slice (some ⟨b3, 0, none⟩) ws.length ws.length, .int .i64 sm, .int .i64 toh, .int .i64 top, .bool cyc, .int .i64 sn, .int .i64 old, .int .i64 cp, .int .i64 sr, .slice (some ⟨b4, 0, none⟩) rs.length rs.length, .bool fa, .bool de, .bool sh, .int .i64 st, .int .i64 et, .int .i64 en, .int .i64 sp, .slice (some ⟨b5, 0, none⟩) m m]] w fun e w' => ∃ dd : Int, e = .returned (.int .i64 dd) /\ DpA (zbu L X n s ws sm toh top cyc sn old cp sr y rs.length st sp m) (y 0) (y 1) ws dd /\ Below w.heap.size w w' := by
 have B0 : Below w.heap.size w (w.alloc (.cells #[.slice (some ⟨b1, 0, none⟩) L L, .slice (some ⟨b2, 0, none⟩) n n, .slice (some ⟨b3, 0, none⟩) ws.length ws.length, .int .i64 sm, .int .i64 toh, .int .i64 top, .bool cyc, .int .i64 sn, .int .i64 old, .int .i64 cp, .int .i64 sr, .slice (some ⟨b4, 0, none⟩) rs.length rs.length, .bool fa, .bool de, .bool sh, .int .i64 st, .int .i64 et, .int .i64 en, .int .i64 sp, .slice (some ⟨b5, 0, none⟩) m m] 44)) := (Below.refl _ _).alloc (Nat.le_refl _) _
 have HLD := zde rfl (zd.new w 44 #[.slice (some ⟨b1, 0, none⟩) L L, .slice (some ⟨b2, 0, none⟩) n n, .slice (some ⟨b3, 0, none⟩) ws.length ws.length, .int .i64 sm, .int .i64 toh, .int .i64 top, .bool cyc, .int .i64 sn, .int .i64 old, .int .i64 cp, .int .i64 sr, .slice (some ⟨b4, 0, none⟩) rs.length rs.length, .bool fa, .bool de, .bool sh, .int .i64 st, .int .i64 et, .int .i64 en, .int .i64 sp, .slice (some ⟨b5, 0, none⟩) m m]).cell
 have HM : Hid (Calls _ _ _ _ _) := zih b1 b2 b3 b4 b5 L n m ws sm toh top cyc sn old cp sr rs fa de sh st et en sp X s y u _ (h.below B0) hL hn hX hws hrs hm hR hsz hw
 have HF : Hid (McF w (.slice (some ⟨b1, 0, none⟩) L L) (.slice (some ⟨b2, 0, none⟩) n n) (.slice (some ⟨b3, 0, none⟩) ws.length ws.length) (.slice (some ⟨b4, 0, none⟩) rs.length rs.length) (.slice (some ⟨b5, 0, none⟩) m m) L X n s ws rs.length y m u) := h
 have HW : Hid (zg ws) := hw
 clear h hX hR hsz hw
 go_enter Tryz.func7, Tryz.ntmps7
 go_wp2_with (refine zaz rfl _ _ rfl _ HLD ?_)
 refine HM.out.mono ?_
 rintro e w1 ⟨q, rfl, hq, d1⟩
 have X1 := (zd.new w 44 #[.slice (some ⟨b1, 0, none⟩) L L, .slice (some ⟨b2, 0, none⟩) n n, .slice (some ⟨b3, 0, none⟩) ws.length ws.length, .int .i64 sm, .int .i64 toh, .int .i64 top, .bool cyc, .int .i64 sn, .int .i64 old, .int .i64 cp, .int .i64 sr, .slice (some ⟨b4, 0, none⟩) rs.length rs.length, .bool fa, .bool de, .bool sh, .int .i64 st, .int .i64 et, .int .i64 en, .int .i64 sp, .slice (some ⟨b5, 0, none⟩) m m]).below d1 (by simp)
 have B1 := zb B0 d1
 have HQ : Hid (q = true ↔ zbu L X n s ws sm toh top cyc sn old cp sr y rs.length st sp m) := hq
 clear d1 hq B0 HM HLD
 cases q with
 | false =>
   go_wp2
   go_ret
   exact ⟨0, rfl, DpA.no (fun hk => absurd (HQ.out.2 hk) (by simp)), B1⟩
 | true =>
 have hok : zbu L X n s ws sm toh top cyc sn old cp sr y rs.length st sp m := HQ.out.1 rfl
 have HK6 : Hid (rs.length = 6) := hok.2.2.1
 have hk' : (0 : Int) < (rs.length : Int) := by have := HK6.out; omega
 have hk0 : 0 < rs.length := by omega
 have k11 := X1.cell 11
 simp at k11
 obtain ⟨l4, r0, r1⟩ := zjb (HF.out.below B1).rt hk0
 have z1 := X1.lt
 by_cases h6 : y 0 = 6
 rotate_left
 · have HN : Hid (DpA (zbu L X n s ws sm toh top cyc sn old cp sr y rs.length st sp m) (y 0) (y 1) ws 0) := DpA.other h6
   have h6' : (y 0 != 6) = true := by simpa using h6
   clear HQ hok HF
   obtain ⟨y0, hy0⟩ : ∃ z, z = y 0 := ⟨_, rfl⟩
   rw [<- hy0] at r0 h6'
   clear hy0 h6
   go_wp2
   go_ret
   exact ⟨0, rfl, HN.out, B1⟩
 obtain ⟨N, hN, hfit, w0, w60⟩ := zub HW.out hok.2.1 (i := 0) (by omega) (by simpa using h6)
 have hN1 : y 1 = (N : Int) := by simpa using hN
 have HD : Hid (∀ dd, (za ws (N + 3) < 3 -> dd = 0) -> (3 <= za ws (N + 3) -> dd = 1 + (zba ws N 60 (za ws (N + 3)).toNat : Int)) -> DpA (zbu L X n s ws sm toh top cyc sn old cp sr y rs.length st sp m) (y 0) (y 1) ws dd) := fun dd e1 e2 => DpA.of hN1 e1 h6 hok e2
 rw [h6] at r0
 rw [hN1] at r1
 have HV : Hid (McV w1 b3 b4 rs.length ws N) := ⟨(HF.out.below B1).wd, l4, r0, r1, hk0, hws, HW.out, hfit⟩
 have HXM : Hid (zd w1 w.heap.size 44 #[.slice (some ⟨b1, 0, none⟩) L L, .slice (some ⟨b2, 0, none⟩) n n, .slice (some ⟨b3, 0, none⟩) ws.length ws.length, .int .i64 sm, .int .i64 toh, .int .i64 top, .bool cyc, .int .i64 sn, .int .i64 old, .int .i64 cp, .int .i64 sr, .slice (some ⟨b4, 0, none⟩) rs.length rs.length, .bool fa, .bool de, .bool sh, .int .i64 st, .int .i64 et, .int .i64 en, .int .i64 sp, .slice (some ⟨b5, 0, none⟩) m m]) := X1
 obtain ⟨bb, hbb⟩ : ∃ bb : Nat, za ws (N + 3) = (bb : Int) := ⟨(za ws (N + 3)).toNat, by omega⟩
 have hwr : wrap64 (za ws (N + 3)) = (bb : Int) := by rw [hbb]; unfold wrap64; omega
 have HAT : Hid (∀ W, Below w1.heap.size w1 W -> Calls Tryz.prog 20 #[.agg #[.pointer (some ⟨w.heap.size, 2, none⟩), .int .i64 (N : Int)], .int .i64 3] W fun e w' => e = .returned (.int .i64 (bb : Int)) /\ Below W.heap.size W w') := fun W hW => by
  have := zup (some ⟨b1, 0, none⟩) L L (some ⟨b2, 0, none⟩) n n b3 b4 ws sm toh top cyc sn old cp sr rs.length fa de sh st et en sp (some ⟨b5, 0, none⟩) m m w.heap.size N 3 W (HXM.out.below hW HXM.out.lt) (HV.out.below hW) (by omega)
  rw [hwr] at this
  exact this
 have HLK : Hid (∀ W (b : Nat), Below w1.heap.size w1 W -> 3 < b -> b <= 60 -> Calls Tryz.prog 21 #[.agg #[.pointer (some ⟨w.heap.size, 2, none⟩), .int .i64 (N : Int)], .int .i64 b] W fun e w' => LkR ws N b W e w') := fun W b hW h1 h2 => zqn (some ⟨b1, 0, none⟩) L L (some ⟨b2, 0, none⟩) n n b3 b4 ws sm toh top cyc sn old cp sr rs.length fa de sh st et en sp (some ⟨b5, 0, none⟩) m m w.heap.size N b W (HXM.out.below hW HXM.out.lt) (HV.out.below hW) h1 h2
 rw [hbb] at w0 w60
 have HD2 : Hid (((bb : Int) < 3 -> DpA (zbu L X n s ws sm toh top cyc sn old cp sr y rs.length st sp m) (y 0) (y 1) ws 0) /\ (3 <= bb -> DpA (zbu L X n s ws sm toh top cyc sn old cp sr y rs.length st sp m) (y 0) (y 1) ws (1 + (zba ws N 60 bb : Int)))) := ⟨fun h => HD.out 0 (fun _ => rfl) (fun g => by rw [hbb] at g; omega), fun h => HD.out _ (fun g => by rw [hbb] at g; omega) (fun _ => by rw [hbb, Int.toNat_natCast])⟩
 clear hok HQ HF h6 hN hN1 HD hwr hbb HW HV hfit w0 X1
 have n6 : ((6 : Int) != 6) = false := rfl
 go_wp2_with fail
 obtain ⟨w2, hw2⟩ : ∃ V, V = w1.alloc (.cells #[.pointer (some ⟨w.heap.size, 2, none⟩), .int .i64 (N : Int)] 61) := ⟨_, rfl⟩
 have d2 : Below w1.heap.size w1 w2 := by rw [hw2]; exact (Below.refl _ _).alloc (Nat.le_refl _) _
 have X2 : zd w2 w1.heap.size 61 #[.pointer (some ⟨w.heap.size, 2, none⟩), .int .i64 (N : Int)] := by rw [hw2]; exact zd.new w1 _ _
 rw [<- hw2]
 clear hw2
 refine (HAT.out _ d2).mono ?_
 rintro e w3 ⟨rfl, d3⟩
 have X3 := X2.below d3 X2.lt
 have z3 := X3.lt
 have E3 : Below w1.heap.size w1 w3 := zb d2 d3
 have B3 := zb B1 E3
 clear X2 d2 d3 HAT B1 k11 r0 r1 l4
 by_cases hb : (bb : Int) < 3
 · have HE : Hid (DpA (zbu L X n s ws sm toh top cyc sn old cp sr y rs.length st sp m) (y 0) (y 1) ws 0) := HD2.out.1 hb
   clear HD2
   go_wp2
   go_ret
   exact ⟨0, rfl, HE.out, B3⟩
 have HE : Hid (DpA (zbu L X n s ws sm toh top cyc sn old cp sr y rs.length st sp m) (y 0) (y 1) ws (1 + (zba ws N 60 bb : Int))) := HD2.out.2 (by omega)
 clear HD2
 go_wp2_with fail
 go_loopw [4, 5] (fun u4 u5 wr => ∃ c b f : Nat, u5 = .int .i64 c /\ u4 = .int .i64 b /\ 3 <= b /\ c + b <= 61 /\ 1 <= c /\ b <= f /\ Hid (1 + zba ws N 60 bb = c + zba ws N f b) /\ Below w3.heap.size w3 wr) (fun u4 _ _ => (intOf u4).toNat)
 case atStart => exact ⟨1, bb, 60, rfl, rfl, by omega, by omega, by omega, by omega, rfl, Below.refl _ _⟩
 case round =>
  obtain ⟨c, b, f, rfl, rfl, h3, h61, h1, hf, HI, hF⟩ := hrel
  have BR := zb B3 hF
  by_cases g3 : b = 3
  · subst g3
    have HZ : Hid (DpA (zbu L X n s ws sm toh top cyc sn old cp sr y rs.length st sp m) (y 0) (y 1) ws (c : Int)) := by
     have e := HI.out
     rw [zgm (f := f) (b := 3) (by omega)] at e
     have e2 : (1 : Int) + (zba ws N 60 bb : Int) = (c : Int) := by omega
     have := HE.out
     rwa [e2] at this
    clear HE HI
    go_wp2
    go_ret
    exact ⟨c, rfl, HZ.out, BR⟩
  have g3' : ((b : Int) != 3) = true := by simp; omega
  have hc1 : (c : Int) + 1 <= 62 := by omega
  have XR := X3.below hF z3
  have q0 := XR.cell 0
  have q1 := XR.cell 1
  simp at q0 q1
  have HL1 : Hid (Calls _ _ _ _ _) := HLK.out wr b (zb E3 hF) (by omega) (by omega)
  go_wp2_with fail
  refine HL1.out.mono ?_
  rintro e w4 ⟨pl, ca, rfl, d4⟩
  have F4 := zb hF d4
  have B4 := zb BR d4
  have BA : Below w.heap.size w (w4.alloc (.cells #[.int .i64 (lkL ws N b), .int .i64 pl, .bool ca] 64)) := B4.alloc B4.size _
  have FA : Below w3.heap.size w3 (w4.alloc (.cells #[.int .i64 (lkL ws N b), .int .i64 pl, .bool ca] 64)) := F4.alloc F4.size _
  clear HL1 XR q0 q1
  cases hlk : lkB ws N b with
  | false =>
    have HZ : Hid (DpA (zbu L X n s ws sm toh top cyc sn old cp sr y rs.length st sp m) (y 0) (y 1) ws (c : Int)) := by
     have e := HI.out
     rw [zgm (f := f) (b := b) (by simp [hlk])] at e
     have e2 : (1 : Int) + (zba ws N 60 bb : Int) = (c : Int) := by omega
     have := HE.out
     rwa [e2] at this
    clear HE HI
    go_wp2
    go_ret
    exact ⟨c, rfl, HZ.out, BA⟩
  | true =>
    obtain ⟨l, g, hl, l3, lb, lg, he⟩ := zkc hf (by omega) hlk
    have HJ : Hid (1 + zba ws N 60 bb = (c + 1) + zba ws N g l) := by
     have := HI.out
     rw [he] at this
     show 1 + zba ws N 60 bb = (c + 1) + zba ws N g l
     omega
    rw [hl] at FA ⊢
    clear HE HI he hl BA
    go_wp2
    go_roundw
    case rel => exact ⟨c + 1, l, g, by go_num, rfl, l3, by omega, by omega, lg, HJ, FA⟩
    case measure => simp [intOf]; omega
set_option maxHeartbeats 4000000 in
theorem zqv (a1 : Option Addr) (L c1 : Nat) (a2 : Option Addr) (n c2 : Nat) (aw : Option Addr) (cw : Nat) (ws : List Int) (sm toh top : Int) (cyc : Bool) (sn old cp sr : Int) (ar : Option Addr) (cr : Nat) (rs : List (Int × Int)) (fa de sh : Bool) (st et en sp : Int) (ao : Option Addr) (m co : Nat) (X : Nat -> PtD) (s : Nat -> ByteArray) (y : Nat -> Int) (u : Nat -> ByteArray) (w : World) (h : McF w (.slice a1 L c1) (.slice a2 n c2) (.slice aw ws.length cw) (.slice ar rs.length cr) (.slice ao m co) L X n s ws rs.length y m u) (hw : zg ws) (g1 : L <= 9223372036854775807) (g2 : n <= 9223372036854775807) (g3 : ∀ j, j < L -> PLr (X j)) (g4 : ∀ j, j < n -> (s j).size <= 9223372036854775807) (g5 : ws.length <= 9223372036854775807) (g6 : rs.length <= 9223372036854775807) (g7 : m <= 9223372036854775807) (g8 : ∀ j, j < m -> (u j).size <= 9223372036854775807) :
 Calls Tryz.prog 3 #[.agg #[.slice a1 L c1, .slice a2 n c2, .slice aw ws.length cw, .int .i64 sm, .int .i64 toh, .int .i64 top, .bool cyc, .int .i64 sn, .int .i64 old, .int .i64 cp, .int .i64 sr, .slice ar rs.length cr, .bool fa, .bool de, .bool sh, .int .i64 st, .int .i64 et, .int .i64 en, .int .i64 sp, .slice ao m co]] w fun e w' => e = .returned (.bool true) /\ Below w.heap.size w w' := by
 have B0 : Below w.heap.size w (w.alloc (.cells #[.slice a1 L c1, .slice a2 n c2, .slice aw ws.length cw, .int .i64 sm, .int .i64 toh, .int .i64 top, .bool cyc, .int .i64 sn, .int .i64 old, .int .i64 cp, .int .i64 sr, .slice ar rs.length cr, .bool fa, .bool de, .bool sh, .int .i64 st, .int .i64 et, .int .i64 en, .int .i64 sp, .slice ao m co] 33)) := (Below.refl _ _).alloc (Nat.le_refl _) _
 have HZ : Hid (Calls _ _ _ _ _) := zkw a1 L c1 a2 n c2 aw cw ws sm toh top cyc sn old cp sr ar cr rs fa de sh st et en sp ao m co X s y u (w.alloc (.cells #[.slice a1 L c1, .slice a2 n c2, .slice aw ws.length cw, .int .i64 sm, .int .i64 toh, .int .i64 top, .bool cyc, .int .i64 sn, .int .i64 old, .int .i64 cp, .int .i64 sr, .slice ar rs.length cr, .bool fa, .bool de, .bool sh, .int .i64 st, .int .i64 et, .int .i64 en, .int .i64 sp, .slice ao m co] 33)) (h.below B0) g1 g2 g3 g4 g5 g6 g7 g8
 have H : Hid (McF w (.slice a1 L c1) (.slice a2 n c2) (.slice aw ws.length cw) (.slice ar rs.length cr) (.slice ao m co) L X n s ws rs.length y m u) := h
 have HW : Hid (zg ws) := hw
 have G3 : Hid (∀ j, j < L -> PLr (X j)) := g3
 have G4 : Hid (∀ j, j < n -> (s j).size <= 9223372036854775807) := g4
 have HLD := zhe rfl (zd.new w 33 #[.slice a1 L c1, .slice a2 n c2, .slice aw ws.length cw, .int .i64 sm, .int .i64 toh, .int .i64 top, .bool cyc, .int .i64 sn, .int .i64 old, .int .i64 cp, .int .i64 sr, .slice ar rs.length cr, .bool fa, .bool de, .bool sh, .int .i64 st, .int .i64 et, .int .i64 en, .int .i64 sp, .slice ao m co]).cell
 clear h hw g3 g4 g8
 go_enter Tryz.func3, Tryz.ntmps3
 go_wp2_with (refine zaz rfl _ _ rfl _ HLD ?_)
 refine HZ.out.mono ?_
 rintro e w1 ⟨r, rfl, hr, d1⟩
 have X0 := (zd.new w 33 #[.slice a1 L c1, .slice a2 n c2, .slice aw ws.length cw, .int .i64 sm, .int .i64 toh, .int .i64 top, .bool cyc, .int .i64 sn, .int .i64 old, .int .i64 cp, .int .i64 sr, .slice ar rs.length cr, .bool fa, .bool de, .bool sh, .int .i64 st, .int .i64 et, .int .i64 en, .int .i64 sp, .slice ao m co]).below d1 (by simp)
 have B1 := zb B0 d1
 have z1 := X0.lt
 clear d1 HZ HLD B0
 rcases hr with rfl | ⟨r0, hL, hn, hX, hws, hrs, hm⟩
 · go_wp2
   go_ret
   exact ⟨rfl, B1⟩
 have r0' : ¬ r < 0 := by omega
 have HX : Hid (∀ j, j < L -> PLe (X j) 1048576) := hX
 clear hX
 obtain ⟨q0, hq0⟩ : ∃ q0 : Int, DpA (zbu L X n s ws sm toh top cyc sn old cp sr y rs.length st sp m) (y 0) (y 1) ws q0 := DpA.some_
 have HT : Hid (∀ W, Below w.heap.size w W -> _) := fun W (hW : Below w.heap.size w W) => zk4 a1 L c1 a2 n c2 aw cw ws sm toh top cyc sn old cp sr ar cr rs fa de sh st et en sp ao m co X s y u W (H.out.below hW) hL hn HX.out hws hrs hm
 have HSP : Hid (∀ (b1 b2 b3 b4 b5 : Nat) (W : World), McF W (.slice (some ⟨b1, 0, none⟩) L L) (.slice (some ⟨b2, 0, none⟩) n n) (.slice (some ⟨b3, 0, none⟩) ws.length ws.length) (.slice (some ⟨b4, 0, none⟩) rs.length rs.length) (.slice (some ⟨b5, 0, none⟩) m m) L X n s ws rs.length y m u -> Calls Tryz.prog 5 #[.agg #[.slice (some ⟨b1, 0, none⟩) L L, .slice (some ⟨b2, 0, none⟩) n n, .slice (some ⟨b3, 0, none⟩) ws.length ws.length, .int .i64 sm, .int .i64 toh, .int .i64 top, .bool cyc, .int .i64 sn, .int .i64 old, .int .i64 cp, .int .i64 sr, .slice (some ⟨b4, 0, none⟩) rs.length rs.length, .bool fa, .bool de, .bool sh, .int .i64 st, .int .i64 et, .int .i64 en, .int .i64 sp, .slice (some ⟨b5, 0, none⟩) m m]] W fun e w' => e = .returned (.int .i64 q0) /\ Below W.heap.size W w') :=
  fun b1 b2 b3 b4 b5 W h1 => (zkd b1 b2 b3 b4 b5 L n m ws sm toh top cyc sn old cp sr rs fa de sh st et en sp X s y u W h1 hL hn HX.out hws hrs hm G3.out G4.out HW.out).mono fun e w' ⟨q, he, hq, hb⟩ => ⟨by rw [he, hq.same hq0], hb⟩
 have HIM : Hid (∀ (b1 b2 b3 b4 b5 : Nat) (W : World), McF W (.slice (some ⟨b1, 0, none⟩) L L) (.slice (some ⟨b2, 0, none⟩) n n) (.slice (some ⟨b3, 0, none⟩) ws.length ws.length) (.slice (some ⟨b4, 0, none⟩) rs.length rs.length) (.slice (some ⟨b5, 0, none⟩) m m) L X n s ws rs.length y m u -> Calls Tryz.prog 7 #[.agg #[.slice (some ⟨b1, 0, none⟩) L L, .slice (some ⟨b2, 0, none⟩) n n, .slice (some ⟨b3, 0, none⟩) ws.length ws.length, .int .i64 sm, .int .i64 toh, .int .i64 top, .bool cyc, .int .i64 sn, .int .i64 old, .int .i64 cp, .int .i64 sr, .slice (some ⟨b4, 0, none⟩) rs.length rs.length, .bool fa, .bool de, .bool sh, .int .i64 st, .int .i64 et, .int .i64 en, .int .i64 sp, .slice (some ⟨b5, 0, none⟩) m m]] W fun e w' => e = .returned (.int .i64 q0) /\ Below W.heap.size W w') :=
  fun b1 b2 b3 b4 b5 W h1 => (zky b1 b2 b3 b4 b5 L n m ws sm toh top cyc sn old cp sr rs fa de sh st et en sp X s y u W h1 hL hn HX.out hws hrs hm G3.out G4.out HW.out).mono fun e w' ⟨q, he, hq, hb⟩ => ⟨by rw [he, hq.same hq0], hb⟩
 clear hq0
 have HLD := zhe rfl X0.cell
 go_wp2_with (refine zaz rfl _ _ rfl _ HLD ?_)
 refine (HT.out _ B1).mono ?_
 rintro e wA ⟨x1, x2, x3, x4, x5, rfl, sA, dA⟩
 have BA := zb B1 dA
 have XA := X0.below dA z1
 have zA := XA.lt
 clear dA HLD X0 z1 B1
 go_wp2_with fail
 refine (HSP.out _ _ _ _ _ _ sA).mono ?_
 rintro e w3 ⟨rfl, d3⟩
 have B3 := zb BA d3
 have X3 := XA.below d3 zA
 have z3 := X3.lt
 have HLD := zhe rfl X3.cell
 clear d3 sA XA zA BA HSP
 go_wp2_with (refine zaz rfl _ _ rfl _ HLD ?_)
 refine (HT.out _ B3).mono ?_
 rintro e w4 ⟨y1, y2, y3, y4, y5, rfl, s4, d4⟩
 have B4 := zb B3 d4
 have X4 := X3.below d4 z3
 have z4 := X4.lt
 clear d4 X3 z3 B3 HLD
 have HST := zoc (A := #[.slice (some ⟨y1, 0, none⟩) L L, .slice (some ⟨y2, 0, none⟩) n n, .slice (some ⟨y3, 0, none⟩) ws.length ws.length, .int .i64 sm, .int .i64 toh, .int .i64 top, .bool cyc, .int .i64 sn, .int .i64 old, .int .i64 cp, .int .i64 sr, .slice (some ⟨y4, 0, none⟩) rs.length rs.length, .bool fa, .bool de, .bool sh, .int .i64 st, .int .i64 et, .int .i64 en, .int .i64 sp, .slice (some ⟨y5, 0, none⟩) m m]) rfl rfl (by simp [Value.oneCell']) (zd.new w4 44 #[.slice none 0 0, .slice none 0 0, .slice none 0 0, .int .i64 0, .int .i64 0, .int .i64 0, .bool false, .int .i64 0, .int .i64 0, .int .i64 0, .int .i64 0, .slice none 0 0, .bool false, .bool false, .bool false, .int .i64 0, .int .i64 0, .int .i64 0, .int .i64 0, .slice none 0 0])
 have Y5 := (zd.new w4 44 #[.slice none 0 0, .slice none 0 0, .slice none 0 0, .int .i64 0, .int .i64 0, .int .i64 0, .bool false, .int .i64 0, .int .i64 0, .int .i64 0, .int .i64 0, .slice none 0 0, .bool false, .bool false, .bool false, .int .i64 0, .int .i64 0, .int .i64 0, .int .i64 0, .slice none 0 0]).row #[.slice (some ⟨y1, 0, none⟩) L L, .slice (some ⟨y2, 0, none⟩) n n, .slice (some ⟨y3, 0, none⟩) ws.length ws.length, .int .i64 sm, .int .i64 toh, .int .i64 top, .bool cyc, .int .i64 sn, .int .i64 old, .int .i64 cp, .int .i64 sr, .slice (some ⟨y4, 0, none⟩) rs.length rs.length, .bool fa, .bool de, .bool sh, .int .i64 st, .int .i64 et, .int .i64 en, .int .i64 sp, .slice (some ⟨y5, 0, none⟩) m m]
 have HL5 := zde rfl Y5.cell
 go_wp2_with (first | refine zfj rfl _ _ _ rfl HST ?_ | refine zaz rfl _ _ rfl _ HL5 ?_)
 obtain ⟨W5, hW5⟩ : ∃ W, W = (w4.alloc (.cells #[.slice none 0 0, .slice none 0 0, .slice none 0 0, .int .i64 0, .int .i64 0, .int .i64 0, .bool false, .int .i64 0, .int .i64 0, .int .i64 0, .int .i64 0, .slice none 0 0, .bool false, .bool false, .bool false, .int .i64 0, .int .i64 0, .int .i64 0, .int .i64 0, .slice none 0 0] 44)).setRow w4.heap.size #[.slice (some ⟨y1, 0, none⟩) L L, .slice (some ⟨y2, 0, none⟩) n n, .slice (some ⟨y3, 0, none⟩) ws.length ws.length, .int .i64 sm, .int .i64 toh, .int .i64 top, .bool cyc, .int .i64 sn, .int .i64 old, .int .i64 cp, .int .i64 sr, .slice (some ⟨y4, 0, none⟩) rs.length rs.length, .bool fa, .bool de, .bool sh, .int .i64 st, .int .i64 et, .int .i64 en, .int .i64 sp, .slice (some ⟨y5, 0, none⟩) m m] := ⟨_, rfl⟩
 have b45 : Below w4.heap.size w4 W5 := by rw [hW5]; exact zjw _ ((Below.refl _ _).alloc (Nat.le_refl _) _) (Nat.le_refl _)
 rw [<- hW5] at Y5 ⊢
 clear hW5 HST HL5
 have X5 := X4.below b45 z4
 have z5 := X5.lt
 have zy := Y5.lt
 have s5 := s4.below b45
 have B5 := zb B4 b45
 clear X4 z4 s4 B4 b45
 refine (HIM.out _ _ _ _ _ _ s5).mono ?_
 rintro e w6 ⟨rfl, d6⟩
 have B6 := zb B5 d6
 have X6 := X5.below d6 z5
 have Y6 := Y5.below d6 zy
 have s6 := s5.below d6
 have z6 := X6.lt
 have zy6 := Y6.lt
 clear X5 Y5 s5 d6 z5 zy HIM B5
 have KP : ∀ V, Below w6.heap.size w6 V -> (Below w6.heap.size w6 V /\ zd V w.heap.size 33 #[.slice a1 L c1, .slice a2 n c2, .slice aw ws.length cw, .int .i64 sm, .int .i64 toh, .int .i64 top, .bool cyc, .int .i64 sn, .int .i64 old, .int .i64 cp, .int .i64 sr, .slice ar rs.length cr, .bool fa, .bool de, .bool sh, .int .i64 st, .int .i64 et, .int .i64 en, .int .i64 sp, .slice ao m co] /\ zd V w4.heap.size 44 #[.slice (some ⟨y1, 0, none⟩) L L, .slice (some ⟨y2, 0, none⟩) n n, .slice (some ⟨y3, 0, none⟩) ws.length ws.length, .int .i64 sm, .int .i64 toh, .int .i64 top, .bool cyc, .int .i64 sn, .int .i64 old, .int .i64 cp, .int .i64 sr, .slice (some ⟨y4, 0, none⟩) rs.length rs.length, .bool fa, .bool de, .bool sh, .int .i64 st, .int .i64 et, .int .i64 en, .int .i64 sp, .slice (some ⟨y5, 0, none⟩) m m]) := fun V hV => ⟨hV, X6.below hV z6, Y6.below hV zy6⟩
 go_wp2_with fail
 have b6' := (Below.refl w6.heap.size w6).drew
 refine wp_region_held_drew (S := fun V => Below w6.heap.size w6 V /\ zd V w.heap.size 33 #[.slice a1 L c1, .slice a2 n c2, .slice aw ws.length cw, .int .i64 sm, .int .i64 toh, .int .i64 top, .bool cyc, .int .i64 sn, .int .i64 old, .int .i64 cp, .int .i64 sr, .slice ar rs.length cr, .bool fa, .bool de, .bool sh, .int .i64 st, .int .i64 et, .int .i64 en, .int .i64 sp, .slice ao m co] /\ zd V w4.heap.size 44 #[.slice (some ⟨y1, 0, none⟩) L L, .slice (some ⟨y2, 0, none⟩) n n, .slice (some ⟨y3, 0, none⟩) ws.length ws.length, .int .i64 sm, .int .i64 toh, .int .i64 top, .bool cyc, .int .i64 sn, .int .i64 old, .int .i64 cp, .int .i64 sr, .slice (some ⟨y4, 0, none⟩) rs.length rs.length, .bool fa, .bool de, .bool sh, .int .i64 st, .int .i64 et, .int .i64 en, .int .i64 sp, .slice (some ⟨y5, 0, none⟩) m m]) (by kernel_rfl) (KP _ b6') (fun hHeld => ?_)
 refine wpAnyH_take (i := 0) (oi := { dst := some 22, op := _, type := _, pos := _, after := _, guard := _ }) (v := .agg #[.slice (some ⟨y1, 0, none⟩) L L, .slice (some ⟨y2, 0, none⟩) n n, .slice (some ⟨y3, 0, none⟩) ws.length ws.length, .int .i64 sm, .int .i64 toh, .int .i64 top, .bool cyc, .int .i64 sn, .int .i64 old, .int .i64 cp, .int .i64 sr, .slice (some ⟨y4, 0, none⟩) rs.length rs.length, .bool fa, .bool de, .bool sh, .int .i64 st, .int .i64 et, .int .i64 en, .int .i64 sp, .slice (some ⟨y5, 0, none⟩) m m]) rfl (by kernel_rfl) (by kernel_rfl) (by kernel_rfl) (fun _ _ _ h => h) (Or.inl ⟨by kernel_rfl, fun V hS => zfx rfl (zde rfl hS.2.2.cell)⟩) hHeld ?_
 try simp only [Act.put, zvs, zvt, zvu]
 refine wpAnyH_take (i := 1) (oi := { dst := some 23, op := _, type := _, pos := _, after := _, guard := _ }) (v := .agg #[.slice a1 L c1, .slice a2 n c2, .slice aw ws.length cw, .int .i64 sm, .int .i64 toh, .int .i64 top, .bool cyc, .int .i64 sn, .int .i64 old, .int .i64 cp, .int .i64 sr, .slice ar rs.length cr, .bool fa, .bool de, .bool sh, .int .i64 st, .int .i64 et, .int .i64 en, .int .i64 sp, .slice ao m co]) rfl (by kernel_rfl) (by kernel_rfl) (by kernel_rfl) (fun _ _ _ h => h) (Or.inl ⟨by kernel_rfl, fun V hS => zfx rfl (zhe rfl hS.2.1.cell)⟩) hHeld ?_
 try simp only [Act.put, zvs, zvt, zvu]
 refine wpAnyH_ready (rs := [2]) (by kernel_rfl) (by simp) ?_
 refine AllReadyH.cons (o := { dst := some 24, op := _, type := _, pos := _, after := _, guard := _ }) rfl (fun K hK => ?_) AllReadyH.nil
 go_simp
 go_at_call 6
 refine (HT.out _ (zb B6 hHeld.1)).mono ?_
 rintro e w7 ⟨v1, v2, v3, v4, v5, rfl, s7, d7⟩
 have b7 := zb (w := w6) hHeld.1 d7
 clear d7 hHeld
 refine hK.out _ _ (KP _ b7) (fun hHeld => ?_)
 clear hK K
 try simp only [Act.put, zvs, zvt, zvu]
 refine wpAnyH_ready (rs := [3]) (by kernel_rfl) (by simp) ?_
 refine AllReadyH.cons (o := { dst := some 25, op := _, type := _, pos := _, after := _, guard := _ }) rfl (fun K hK => ?_) AllReadyH.nil
 go_simp
 go_at_call 8
 refine (zjt L n m ws sm toh top cyc sn old cp sr rs fa de sh st et en sp X s y u _ _ _ _ _ _ _ _ _ _ _ _ _ _ _ _ _ _ _ _ w7 (s6.below b7) s7 hL hn HX.out hws hrs hm).mono ?_
 rintro e w8 ⟨rfl, d8⟩
 have b8 := zb (w := w6) b7 d8
 clear d8 hHeld
 refine hK.out _ _ (KP _ b8) (fun hHeld => ?_)
 clear hK K
 try simp only [Act.put, zvs, zvt, zvu]
 refine wpAnyH_take (i := 4) (oi := { dst := some 26, op := _, type := _, pos := _, after := _, guard := _ }) (v := .bool false) rfl (by kernel_rfl) (by kernel_rfl) (by kernel_rfl) (fun _ _ _ h => h) (Or.inl ⟨by kernel_rfl, ?_⟩) hHeld ?_
 · intro w hSw
   go_simp
 try simp only [Act.put, zvs, zvt, zvu]
 refine wpAnyH_done (by kernel_rfl) ?_ _
 go_wp2
 go_ret
 exact ⟨rfl, zb B6 b8⟩
end Go.Proofs.YthdnpafigkkkkaaGreat
