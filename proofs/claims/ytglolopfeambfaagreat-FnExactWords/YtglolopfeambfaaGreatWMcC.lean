/- - -/
import Derived.Test.YtglolopfeambfaaGreatWMcA
import Derived.Test.YtglolopfeambfaaGreatWMkK
import Derived.Test.YtglolopfeambfaaGreatWMkN
namespace Go.Proofs.YtglolopfeambfaaGreat
set_option maxRecDepth 20000
open Go.RowKit
set_option linter.unusedSimpArgs false
set_option linter.unusedVariables false
theorem zhf (aw : Option Addr) (n cw : Nat) (smz toh top : Int) (cyc : Bool) (sn old cpz sr : Int) (ar : Option Addr) (m cr : Nat) (left : Int) (w : World) (l0 : 0 <= left) (l1 : left <= 1048576) (hn : n <= 9223372036854775807) (hm : m <= 9223372036854775807) :
 Calls Tryz.prog 10 #[.agg #[.slice aw n cw, .int .i64 smz, .int .i64 toh, .int .i64 top, .bool cyc, .int .i64 sn, .int .i64 old, .int .i64 cpz, .int .i64 sr, .slice ar m cr], .int .i64 left] w fun e w' => e = .returned (.int .i64 (if (n : Int) + m <= left then left - n - m else -1)) /\ Below w.heap.size w w' := by
 by_cases h1 : (n : Int) <= left
 · by_cases h2 : (n : Int) + m <= left
   · have g1 : ¬ (left - (n : Int)) < 0 := by omega
     have g2 : ¬ (left - (n : Int) - m) < 0 := by omega
     have e1 : (if (m : Int) <= left - (n : Int) then left - (n : Int) - m else -1) = left - (n : Int) - m := if_pos (by omega)
     rw [if_pos h2]
     go_enter Tryz.func10, Tryz.ntmps10
     go_wp2_with (first | (go_at_call 27; refine (zge _ _ _ _ _ (by omega) (by omega) hn).mono ?_; rw [if_pos h1]; rintro e w1 ⟨rfl, rfl⟩) | (go_at_call 28; refine (zja _ _ _ _ _ (by omega) (by omega) hm).mono ?_; rw [e1]; rintro e w2 ⟨rfl, rfl⟩))
     go_ret
     exact ⟨rfl, zc (Below.refl _ _)⟩
   · have g1 : ¬ (left - (n : Int)) < 0 := by omega
     have e1 : (if (m : Int) <= left - (n : Int) then left - (n : Int) - m else -1) = -1 := if_neg (by omega)
     rw [if_neg h2]
     go_enter Tryz.func10, Tryz.ntmps10
     go_wp2_with (first | (go_at_call 27; refine (zge _ _ _ _ _ (by omega) (by omega) hn).mono ?_; rw [if_pos h1]; rintro e w1 ⟨rfl, rfl⟩) | (go_at_call 28; refine (zja _ _ _ _ _ (by omega) (by omega) hm).mono ?_; rw [e1]; rintro e w2 ⟨rfl, rfl⟩))
     go_ret
     exact ⟨rfl, zc (Below.refl _ _)⟩
 · have h2 : ¬ (n : Int) + m <= left := by omega
   rw [if_neg h2]
   go_enter Tryz.func10, Tryz.ntmps10
   go_wp2_with (first | (go_at_call 27; refine (zge _ _ _ _ _ (by omega) (by omega) hn).mono ?_; rw [if_neg h1]; rintro e w1 ⟨rfl, rfl⟩))
   go_ret
   exact ⟨rfl, zc (Below.refl _ _)⟩
set_option maxHeartbeats 2000000 in
theorem zk9 (a1 : Option Addr) (L c1 : Nat) (a2 : Option Addr) (n c2 : Nat) (aw : Option Addr) (cw : Nat) (ws : List Int) (smz toh top : Int) (cyc : Bool) (sn old cpz sr : Int) (ar : Option Addr) (cr : Nat) (rs : List (Int × Int)) (fa de sh : Bool) (st et en sp : Int) (ao : Option Addr) (m co : Nat) (X : Nat -> PtD) (s : Nat -> ByteArray) (y : Nat -> Int) (u : Nat -> ByteArray) (w : World) (h : McF w (.slice a1 L c1) (.slice a2 n c2) (.slice aw ws.length cw) (.slice ar rs.length cr) (.slice ao m co) L X n s ws rs.length y m u) (g1 : L <= 9223372036854775807) (g2 : n <= 9223372036854775807) (g3 : ∀ j, j < L -> PLr (X j)) (g4 : ∀ j, j < n -> (s j).size <= 9223372036854775807) (g5 : ws.length <= 9223372036854775807) (g6 : rs.length <= 9223372036854775807) (g7 : m <= 9223372036854775807) (g8 : ∀ j, j < m -> (u j).size <= 9223372036854775807) :
 Calls Tryz.prog 4 #[.agg #[.slice a1 L c1, .slice a2 n c2, .slice aw ws.length cw, .int .i64 smz, .int .i64 toh, .int .i64 top, .bool cyc, .int .i64 sn, .int .i64 old, .int .i64 cpz, .int .i64 sr, .slice ar rs.length cr, .bool fa, .bool de, .bool sh, .int .i64 st, .int .i64 et, .int .i64 en, .int .i64 sp, .slice ao m co], .int .i64 1048576] w fun e w' => ∃ r : Int, e = .returned (.int .i64 r) /\ (r = -1 \/ 0 <= r /\ L <= 1048576 /\ n <= 1048576 /\ (∀ j, j < L -> PLe (X j) 1048576) /\ ws.length <= 1048576 /\ rs.length <= 1048576 /\ m <= 1048576) /\ Below w.heap.size w w' := by
 have B0 : Below w.heap.size w (w.alloc (.cells #[.slice a1 L c1, .slice a2 n c2, .slice aw ws.length cw, .int .i64 smz, .int .i64 toh, .int .i64 top, .bool cyc, .int .i64 sn, .int .i64 old, .int .i64 cpz, .int .i64 sr, .slice ar rs.length cr, .bool fa, .bool de, .bool sh, .int .i64 st, .int .i64 et, .int .i64 en, .int .i64 sp, .slice ao m co] 33)) := (Below.refl _ _).alloc (Nat.le_refl _) _
 have HZ1 : Hid (Calls _ _ _ _ _) := znm a1 L c1 X a2 n c2 s w.heap.size 1048576 _ (h.md.1.below B0 (Nat.le_refl _)) (h.md.2.below B0 (Nat.le_refl _)) B0.size (by omega) (by omega) g1 (fun j hj => (g3 j hj).1) g2 g4
 have HO : Hid (TxF w.heap.size w (.slice ao m co) m u) := h.ot
 have G8 : Hid (∀ j, j < m -> (u j).size <= 9223372036854775807) := g8
 clear h g3 g4 g8
 go_enter Tryz.func4, Tryz.ntmps4
 go_wp2_with fail
 refine HZ1.out.mono ?_
 rintro e w1 ⟨r, rfl, hr, b1⟩
 have X0 := (zq.new w 33 #[.slice a1 L c1, .slice a2 n c2, .slice aw ws.length cw, .int .i64 smz, .int .i64 toh, .int .i64 top, .bool cyc, .int .i64 sn, .int .i64 old, .int .i64 cpz, .int .i64 sr, .slice ar rs.length cr, .bool fa, .bool de, .bool sh, .int .i64 st, .int .i64 et, .int .i64 en, .int .i64 sp, .slice ao m co]).below b1 (by simp)
 have B1 := zb B0 b1
 have k0 := X0.cell
 have z1 := X0.lt
 clear b1 HZ1
 rcases hr with rfl | ⟨r0, r1, l1, l2, l3⟩
 · go_wp2
   go_ret
   exact ⟨-1, rfl, .inl rfl, B1⟩
 have HL : Hid (∀ j, j < L -> PLe (X j) 1048576) := l2
 clear l2
 have r0' : ¬ r < 0 := by omega
 by_cases c1 : (ws.length : Int) + rs.length <= r
 rotate_left
 · have HA : Hid (∀ W, _) := fun W => zhf aw ws.length cw smz toh top cyc sn old cpz sr ar rs.length cr r W r0 (by omega) g5 g6
   rw [if_neg c1] at HA
   go_wp2_with fail
   refine (HA.out _).mono ?_
   rintro e w2 ⟨rfl, b2⟩
   have B2 := zb B1 b2
   go_wp2
   go_ret
   exact ⟨-1, rfl, .inl rfl, B2⟩
 have HA : Hid (∀ W, _) := fun W => zhf aw ws.length cw smz toh top cyc sn old cpz sr ar rs.length cr r W r0 (by omega) g5 g6
 rw [if_pos c1] at HA
 have q0 : 0 <= r - (ws.length : Int) - rs.length := by omega
 have q1 : r - (ws.length : Int) - rs.length <= 1048576 := by omega
 have l4 : ws.length <= 1048576 := by omega
 have l5 : rs.length <= 1048576 := by omega
 generalize r - (ws.length : Int) - rs.length = r2 at HA q0 q1
 have q0' : ¬ r2 < 0 := by omega
 go_wp2_with fail
 refine (HA.out _).mono ?_
 rintro e w2 ⟨rfl, b2⟩
 have B2 := zb B1 b2
 have X2 := X0.below b2 z1
 have k2 := X2.cell
 have HS : Hid (Calls _ _ _ _ _) := zhd ao m co u w.heap.size r2 w2 (HO.out.below B2 (Nat.le_refl _)) q0 q1 g7 G8.out
 clear b2 k0 X0 HA HO G8
 go_wp2_with fail
 refine HS.out.mono ?_
 rintro e w3 ⟨r3, rfl, hr3, e3⟩
 subst e3
 rcases hr3 with rfl | ⟨s0, s1, s2, _⟩
 · go_wp2
   go_ret
   exact ⟨-1, rfl, .inl rfl, B2⟩
 have s0' : ¬ r3 < 0 := by omega
 go_wp2
 go_ret
 exact ⟨r3, rfl, .inr ⟨s0, l1, l3, HL.out, l4, l5, s2⟩, B2⟩
set_option maxHeartbeats 4000000 in
theorem zkd (L n m : Nat) (ws : List Int) (smz toh top : Int) (cyc : Bool) (sn old cpz sr : Int) (rs : List (Int × Int)) (fa de sh : Bool) (st et en sp : Int) (X : Nat -> PtD) (s : Nat -> ByteArray) (y : Nat -> Int) (u : Nat -> ByteArray) (p1 p2 p3 p4 p5 : Option Addr) (pc1 pc2 pc3 pc4 pc5 : Nat) (q1 q2 q3 q4 q5 : Option Addr) (qc1 qc2 qc3 qc4 qc5 : Nat)  (w : World) (h1 : McF w (.slice p1 L pc1) (.slice p2 n pc2) (.slice p3 ws.length pc3) (.slice p4 rs.length pc4) (.slice p5 m pc5) L X n s ws rs.length y m u) (h2 : McF w (.slice q1 L qc1) (.slice q2 n qc2) (.slice q3 ws.length qc3) (.slice q4 rs.length qc4) (.slice q5 m qc5) L X n s ws rs.length y m u) (hL : L <= 1048576) (hn : n <= 1048576) (hX : ∀ j, j < L -> PLe (X j) 1048576) (hws : ws.length <= 1048576) (hrs : rs.length <= 1048576) (hm : m <= 1048576) :
 Calls Tryz.prog 8 #[.agg #[.slice p1 L pc1, .slice p2 n pc2, .slice p3 ws.length pc3, .int .i64 smz, .int .i64 toh, .int .i64 top, .bool cyc, .int .i64 sn, .int .i64 old, .int .i64 cpz, .int .i64 sr, .slice p4 rs.length pc4, .bool fa, .bool de, .bool sh, .int .i64 st, .int .i64 et, .int .i64 en, .int .i64 sp, .slice p5 m pc5], .agg #[.slice q1 L qc1, .slice q2 n qc2, .slice q3 ws.length qc3, .int .i64 smz, .int .i64 toh, .int .i64 top, .bool cyc, .int .i64 sn, .int .i64 old, .int .i64 cpz, .int .i64 sr, .slice q4 rs.length qc4, .bool fa, .bool de, .bool sh, .int .i64 st, .int .i64 et, .int .i64 en, .int .i64 sp, .slice q5 m qc5]] w fun e w' => e = .returned (.bool true) /\ Below w.heap.size w w' := by
 have H1 : Hid (McF w (.slice p1 L pc1) (.slice p2 n pc2) (.slice p3 ws.length pc3) (.slice p4 rs.length pc4) (.slice p5 m pc5) L X n s ws rs.length y m u) := h1
 have H2 : Hid (McF w (.slice q1 L qc1) (.slice q2 n qc2) (.slice q3 ws.length qc3) (.slice q4 rs.length qc4) (.slice q5 m qc5) L X n s ws rs.length y m u) := h2
 have HX : Hid (∀ j, j < L -> PLe (X j) 1048576) := hX
 have B0 : Below w.heap.size w ((w.alloc (.cells #[.slice p1 L pc1, .slice p2 n pc2, .slice p3 ws.length pc3, .int .i64 smz, .int .i64 toh, .int .i64 top, .bool cyc, .int .i64 sn, .int .i64 old, .int .i64 cpz, .int .i64 sr, .slice p4 rs.length pc4, .bool fa, .bool de, .bool sh, .int .i64 st, .int .i64 et, .int .i64 en, .int .i64 sp, .slice p5 m pc5] 45)).alloc (.cells #[.slice q1 L qc1, .slice q2 n qc2, .slice q3 ws.length qc3, .int .i64 smz, .int .i64 toh, .int .i64 top, .bool cyc, .int .i64 sn, .int .i64 old, .int .i64 cpz, .int .i64 sr, .slice q4 rs.length qc4, .bool fa, .bool de, .bool sh, .int .i64 st, .int .i64 et, .int .i64 en, .int .i64 sp, .slice q5 m qc5] 45)) := ((Below.refl _ _).alloc (Nat.le_refl _) _).alloc (by simp) _
 clear h1 h2 hX
 go_enter Tryz.func8, Tryz.ntmps8
 go_wp2_with fail
 obtain ⟨W, hW⟩ : ∃ W, W = (w.alloc (.cells #[.slice p1 L pc1, .slice p2 n pc2, .slice p3 ws.length pc3, .int .i64 smz, .int .i64 toh, .int .i64 top, .bool cyc, .int .i64 sn, .int .i64 old, .int .i64 cpz, .int .i64 sr, .slice p4 rs.length pc4, .bool fa, .bool de, .bool sh, .int .i64 st, .int .i64 et, .int .i64 en, .int .i64 sp, .slice p5 m pc5] 45)).alloc (.cells #[.slice q1 L qc1, .slice q2 n qc2, .slice q3 ws.length qc3, .int .i64 smz, .int .i64 toh, .int .i64 top, .bool cyc, .int .i64 sn, .int .i64 old, .int .i64 cpz, .int .i64 sr, .slice q4 rs.length qc4, .bool fa, .bool de, .bool sh, .int .i64 st, .int .i64 et, .int .i64 en, .int .i64 sp, .slice q5 m qc5] 45) := ⟨_, rfl⟩
 have x0 : zq W w.heap.size 45 #[.slice p1 L pc1, .slice p2 n pc2, .slice p3 ws.length pc3, .int .i64 smz, .int .i64 toh, .int .i64 top, .bool cyc, .int .i64 sn, .int .i64 old, .int .i64 cpz, .int .i64 sr, .slice p4 rs.length pc4, .bool fa, .bool de, .bool sh, .int .i64 st, .int .i64 et, .int .i64 en, .int .i64 sp, .slice p5 m pc5] := by rw [hW]; exact (zq.new _ _ _).alloc _
 have x1 : zq W (w.heap.size + 1) 45 #[.slice q1 L qc1, .slice q2 n qc2, .slice q3 ws.length qc3, .int .i64 smz, .int .i64 toh, .int .i64 top, .bool cyc, .int .i64 sn, .int .i64 old, .int .i64 cpz, .int .i64 sr, .slice q4 rs.length qc4, .bool fa, .bool de, .bool sh, .int .i64 st, .int .i64 et, .int .i64 en, .int .i64 sp, .slice q5 m qc5] := by rw [hW]; have := zq.new (w.alloc (.cells #[.slice p1 L pc1, .slice p2 n pc2, .slice p3 ws.length pc3, .int .i64 smz, .int .i64 toh, .int .i64 top, .bool cyc, .int .i64 sn, .int .i64 old, .int .i64 cpz, .int .i64 sr, .slice p4 rs.length pc4, .bool fa, .bool de, .bool sh, .int .i64 st, .int .i64 et, .int .i64 en, .int .i64 sp, .slice p5 m pc5] 45)) 45 #[.slice q1 L qc1, .slice q2 n qc2, .slice q3 ws.length qc3, .int .i64 smz, .int .i64 toh, .int .i64 top, .bool cyc, .int .i64 sn, .int .i64 old, .int .i64 cpz, .int .i64 sr, .slice q4 rs.length qc4, .bool fa, .bool de, .bool sh, .int .i64 st, .int .i64 et, .int .i64 en, .int .i64 sp, .slice q5 m qc5]; simpa using this
 have zW : w.heap.size + 1 < W.heap.size := x1.lt
 rw [<- hW] at B0 ⊢
 clear hW
 have P1 := H1.out.below B0
 have P2 := H2.out.below B0
 refine (zlp _ _ _ _ _ _ _ _ _ _ X s _ _ P1.md P2.md (Nat.le_refl _) hL hn HX.out).mono ?_
 rintro e w1 ⟨rfl, d1⟩
 have B1 := zb B0 d1
 have X0 := x0.below d1 (by omega)
 have X1 := x1.below d1 zW
 have k0 := X0.cell
 have k1 := X1.cell
 have z1 : w.heap.size + 1 < w1.heap.size := X1.lt
 clear d1 x0 x1 zW B0 P1 P2
 go_wp2_with fail
 have P1 := H1.out.below B1
 have P2 := H2.out.below B1
 refine (zmb _ _ _ _ _ _ _ _ ws.length rs.length (za ws) y smz toh top cyc sn old cpz sr w1 (zv3 P1.wd) (zv3 P2.wd) hws P1.rt P2.rt hrs).mono ?_
 rintro e w2 ⟨rfl, d2⟩
 have B2 := zb B1 d2
 have Y0 := X0.below d2 (by omega)
 have Y1 := X1.below d2 z1
 clear X0 X1 k0 k1
 have k0 := Y0.cell
 have k1 := Y1.cell
 have z2 : w.heap.size + 1 < w2.heap.size := Y1.lt
 clear d2 z1 B1 P1 P2
 go_wp2_with fail
 refine (zjl et en _).mono ?_
 rintro e w3 ⟨rfl, d3⟩
 have B3 := zb B2 d3
 have X0 := Y0.below d3 (by omega)
 have X1 := Y1.below d3 z2
 clear Y0 Y1 k0 k1
 have k0 := X0.cell
 have k1 := X1.cell
 clear d3 z2 B2
 go_wp2_with fail
 have P1 := H1.out.below B3
 have P2 := H2.out.below B3
 refine (zgx _ _ _ _ m _ _ u w3 P1.ot P2.ot hm).mono ?_
 rintro e w4 ⟨rfl, d4⟩
 have B4 := zb B3 d4
 clear d4 P1 P2
 go_wp2
 go_ret
 exact ⟨rfl, B4⟩
def zei (L : Nat) (X : Nat -> PtD) (n : Nat) (s : Nat -> ByteArray) (ws : List Int) (smz toh top : Int) (cyc : Bool) (sn old cpz sr : Int) (y : Nat -> Int) (k : Nat) (st sp : Int) (m : Nat) : Prop :=
 MOk L X n s /\ zdt ws smz toh top cyc sn old cpz sr y k /\ k = 6 /\ 0 <= st /\ st <= 2 /\ 0 <= sp /\ m <= 200 /\ ∀ i, 1 <= i -> i < 6 -> y (2 * i) = 0
def zlx (k : Nat) (y : Nat -> Int) : Prop := k = 6 /\ ∀ i, 1 <= i -> i < 6 -> y (2 * i) = 0 /\ y (2 * i + 1) = 0
theorem zv2 {ws : List Int} {smz toh top : Int} {cyc : Bool} {sn old cpz sr : Int} {y : Nat -> Int} {k : Nat} (h : zdt ws smz toh top cyc sn old cpz sr y k) {i : Nat} (hi : i < k) (h0 : y (2 * i) = 0) : y (2 * i + 1) = 0 := by
 obtain ⟨_, L, O, _, _, _, _, hr⟩ := h
 have := (hr i hi).1
 simp only [vOk, decide_eq_true_eq] at this
 omega
theorem ztq {L : Nat} {X : Nat -> PtD} {n : Nat} {s : Nat -> ByteArray} {ws : List Int} {smz toh top : Int} {cyc : Bool} {sn old cpz sr : Int} {y : Nat -> Int} {k : Nat} {st sp : Int} {m : Nat} : zei L X n s ws smz toh top cyc sn old cpz sr y k st sp m ↔ 0 <= st /\ st <= 2 /\ 0 <= sp /\ m <= 200 /\ zlx k y /\ MOk L X n s /\ zdt ws smz toh top cyc sn old cpz sr y k :=
 ⟨fun ⟨h1, h2, h3, h4, h5, h6, h7, h8⟩ => ⟨h4, h5, h6, h7, ⟨h3, fun i i1 i2 => ⟨h8 i i1 i2, zv2 h2 (by omega) (h8 i i1 i2)⟩⟩, h1, h2⟩, fun ⟨h4, h5, h6, h7, ⟨h3, h8⟩, h1, h2⟩ => ⟨h1, h2, h3, h4, h5, h6, h7, fun i i1 i2 => (h8 i i1 i2).1⟩⟩
def mvB (t n t' n' : Int) : Bool := t == t' && n == n'
theorem zwn (t n t' n' : Int) (w : World) : (binOp .eql 43 (.agg #[.int .i64 t, .int .i64 n]) (.agg #[.int .i64 t', .int .i64 n'])).run Tryz.prog w = .ok (.bool (mvB t n t' n')) w := by
 have u3 := Tryz.underlying3
 have a3 := Tryz.isAgg3
 have z3 := Tryz.sizeOf3
 have hS : Tryz.prog.underlying 43 = some (.struct (Tryz.prog.fieldsOf 43)) := by kernel_rfl
 have hp : Tryz.prog.stoodInHeld 43 = false := by kernel_rfl
 rw [run_eql_struct, show (10000 : Nat) = 9999 + 1 from rfl, run_equalIn_agg w 9999 43 _ _ hS hp]
 simp only [Program.fieldsOf, Tryz.underlying43]
 go_simp
 unfold mvB
 by_cases h1 : t = t' <;> by_cases h2 : n = n' <;> simp [h1, h2]
theorem zwo (t n t' n' : Int) (w : World) : (binOp .neq 43 (.agg #[.int .i64 t, .int .i64 n]) (.agg #[.int .i64 t', .int .i64 n'])).run Tryz.prog w = .ok (.bool (!mvB t n t' n')) w := by
 have h := zwn t n t' n' w
 rw [run_eql_struct] at h
 rw [run_neq_struct]
 generalize (Op.equalIn 10000 43 (.agg #[.int .i64 t, .int .i64 n]) (.agg #[.int .i64 t', .int .i64 n'])).run Tryz.prog w = r at h
 cases r with
 | ok b w1 =>
   simp only [Result.andThen_ok, Result.ok.injEq, Value.bool.injEq] at h
   obtain ⟨rfl, rfl⟩ := h
   rfl
 | _ => simp [Result.andThen] at h
set_option maxHeartbeats 4000000 in
theorem zkc (a1 : Option Addr) (L c1 : Nat) (a2 : Option Addr) (n c2 : Nat) (aw : Option Addr) (wl cw : Nat) (smz toh top : Int) (cyc : Bool) (sn old cpz sr : Int) (b4 k : Nat) (fa de sh : Bool) (st et en sp : Int) (ao : Option Addr) (m co : Nat) (y : Nat -> Int) (w : World) (hr : SlF w.heap.size w (.slice (some ⟨b4, 0, none⟩) k k) k (2 * k) (fun i => .int .i64 (y i))) (hk : k <= 1048576) :
 Calls Tryz.prog 40 #[.agg #[.slice a1 L c1, .slice a2 n c2, .slice aw wl cw, .int .i64 smz, .int .i64 toh, .int .i64 top, .bool cyc, .int .i64 sn, .int .i64 old, .int .i64 cpz, .int .i64 sr, .slice (some ⟨b4, 0, none⟩) k k, .bool fa, .bool de, .bool sh, .int .i64 st, .int .i64 et, .int .i64 en, .int .i64 sp, .slice ao m co]] w fun e w' => zf1 (zlx k y) w e w' := by
 have B0 : Below w.heap.size w (w.alloc (.cells #[.slice a1 L c1, .slice a2 n c2, .slice aw wl cw, .int .i64 smz, .int .i64 toh, .int .i64 top, .bool cyc, .int .i64 sn, .int .i64 old, .int .i64 cpz, .int .i64 sr, .slice (some ⟨b4, 0, none⟩) k k, .bool fa, .bool de, .bool sh, .int .i64 st, .int .i64 et, .int .i64 en, .int .i64 sp, .slice ao m co] 45)) := (Below.refl _ _).alloc (Nat.le_refl _) _
 have hk' : (k : Int) <= 1048576 := by omega
 have HR : Hid (SlF w.heap.size w (.slice (some ⟨b4, 0, none⟩) k k) k (2 * k) (fun i => .int .i64 (y i))) := hr
 clear hr
 by_cases h6 : k = 6
 rotate_left
 · have h6' : ((k : Int) != 6) = true := by simp; omega
   go_enter Tryz.func40, Tryz.ntmps40
   go_wp2
   go_ret
   exact ⟨false, rfl, ⟨fun h => (by cases h), fun h => absurd h.1 h6⟩, B0⟩
 subst h6
 go_enter Tryz.func40, Tryz.ntmps40
 go_wp2
 go_loopw [15] (fun i wr => ∃ j : Nat, j <= 5 /\ i = .int .i64 j /\ Hid (∀ p, 1 <= p -> p < j + 1 -> y (2 * p) = 0 /\ y (2 * p + 1) = 0) /\ Below w.heap.size w wr) (fun i _ => 5 - (intOf i).toNat)
 case atStart => exact ⟨0, Nat.zero_le _, rfl, fun p h1 h2 => by omega, B0⟩
 case round =>
  obtain ⟨j, hj, rfl, HP, hF⟩ := hrel
  by_cases hlt : j < 5
  · have hlt' : (j : Int) < 5 := by omega
    obtain ⟨br, offr, cap', hv, _, lbr, hcr⟩ := SlF.parts (HR.out.below hF (Nat.le_refl _)) (k := 0) (by omega)
    simp only [Value.slice.injEq, Option.some.injEq, Addr.mk.injEq] at hv
    obtain ⟨⟨rfl, rfl, _⟩, _, _⟩ := hv
    have q1 : wr.cell? ⟨b4, 2 + j * 2, none⟩ = some (.int .i64 (y (2 * (j + 1)))) := by have := hcr (2 * (j + 1)) (by omega); rw [Nat.zero_add, show 2 * (j + 1) = 2 + j * 2 by omega] at this; rw [this, show 2 + j * 2 = 2 * (j + 1) by omega]
    have q2 : wr.cell? ⟨b4, 2 + j * 2 + 1, none⟩ = some (.int .i64 (y (2 * (j + 1) + 1))) := by have := hcr (2 * (j + 1) + 1) (by omega); rw [Nat.zero_add, show 2 * (j + 1) + 1 = 2 + j * 2 + 1 by omega] at this; rw [this, show 2 + j * 2 + 1 = 2 * (j + 1) + 1 by omega]
    have NX : Hid (zlx 6 y -> y (2 * (j + 1)) = 0 /\ y (2 * (j + 1) + 1) = 0) := fun h => h.2 (j + 1) (by omega) (by omega)
    have NY : Hid (y (2 * (j + 1)) = 0 -> y (2 * (j + 1) + 1) = 0 -> ∀ p, 1 <= p -> p < j + 1 + 1 -> y (2 * p) = 0 /\ y (2 * p + 1) = 0) := fun h1 h2 p p1 p2 => by
     by_cases e : p = j + 1
     · subst e; exact ⟨h1, h2⟩
     · exact HP.out p p1 (by omega)
    generalize y (2 * (j + 1)) = ta at q1 NX NY
    generalize y (2 * (j + 1) + 1) = na at q2 NX NY
    have BX : Below w.heap.size w (wr.alloc (.cells #[.int .i64 ta, .int .i64 na] 43)) := hF.alloc hF.size _
    have hne := zwo ta na 0 0
    clear hcr HR
    by_cases g : ta = 0 /\ na = 0
    · obtain ⟨rfl, rfl⟩ := g
      have HV : Hid (∀ p, 1 <= p -> p < j + 1 + 1 -> y (2 * p) = 0 /\ y (2 * p + 1) = 0) := NY.out rfl rfl
      have hq : mvB 0 0 0 0 = true := rfl
      rw [hq] at hne
      go_wp2
      go_roundw
      case rel => exact ⟨j + 1, by omega, by go_num, HV, BX⟩
      case measure => simp [intOf]; omega
    · have HV : Hid (¬ zlx 6 y) := fun h => g (NX.out h)
      have hq : mvB ta na 0 0 = false := by unfold mvB; simp; omega
      rw [hq] at hne
      go_wp2
      go_ret
      exact ⟨false, rfl, ⟨fun h => (by cases h), fun h => absurd h HV.out⟩, BX⟩
  · have hge : (5 : Int) <= (j : Int) := by omega
    go_wp2
    go_ret
    exact ⟨true, rfl, ⟨fun _ => ⟨rfl, fun i i1 i2 => HP.out i i1 (by omega)⟩, fun _ => rfl⟩, hF⟩
set_option maxHeartbeats 4000000 in
theorem zip (b1 b2 b3 b4 b5 : Nat) (L n m : Nat) (ws : List Int) (smz toh top : Int) (cyc : Bool) (sn old cpz sr : Int) (rs : List (Int × Int)) (fa de sh : Bool) (st et en sp : Int) (X : Nat -> PtD) (s : Nat -> ByteArray) (y : Nat -> Int) (u : Nat -> ByteArray) (w : World) (h : McF w (.slice (some ⟨b1, 0, none⟩) L L) (.slice (some ⟨b2, 0, none⟩) n n) (.slice (some ⟨b3, 0, none⟩) ws.length ws.length) (.slice (some ⟨b4, 0, none⟩) rs.length rs.length) (.slice (some ⟨b5, 0, none⟩) m m) L X n s ws rs.length y m u) (hL : L <= 1048576) (hn : n <= 1048576) (hX : ∀ j, j < L -> PLe (X j) 1048576) (hws : ws.length <= 1048576) (hrs : rs.length <= 1048576) (hm : m <= 1048576) (hR : ∀ j, j < L -> PLr (X j)) (hsz : ∀ j, j < n -> (s j).size <= 9223372036854775807) (hw : ze ws) :
 Calls Tryz.prog 19 #[.agg #[.slice (some ⟨b1, 0, none⟩) L L, .slice (some ⟨b2, 0, none⟩) n n, .slice (some ⟨b3, 0, none⟩) ws.length ws.length, .int .i64 smz, .int .i64 toh, .int .i64 top, .bool cyc, .int .i64 sn, .int .i64 old, .int .i64 cpz, .int .i64 sr, .slice (some ⟨b4, 0, none⟩) rs.length rs.length, .bool fa, .bool de, .bool sh, .int .i64 st, .int .i64 et, .int .i64 en, .int .i64 sp, .slice (some ⟨b5, 0, none⟩) m m]] w fun e w' => zf1 (zei L X n s ws smz toh top cyc sn old cpz sr y rs.length st sp m) w e w' := by
 have B0 : Below w.heap.size w (w.alloc (.cells #[.slice (some ⟨b1, 0, none⟩) L L, .slice (some ⟨b2, 0, none⟩) n n, .slice (some ⟨b3, 0, none⟩) ws.length ws.length, .int .i64 smz, .int .i64 toh, .int .i64 top, .bool cyc, .int .i64 sn, .int .i64 old, .int .i64 cpz, .int .i64 sr, .slice (some ⟨b4, 0, none⟩) rs.length rs.length, .bool fa, .bool de, .bool sh, .int .i64 st, .int .i64 et, .int .i64 en, .int .i64 sp, .slice (some ⟨b5, 0, none⟩) m m] 45)) := (Below.refl _ _).alloc (Nat.le_refl _) _
 have H : Hid (McF w (.slice (some ⟨b1, 0, none⟩) L L) (.slice (some ⟨b2, 0, none⟩) n n) (.slice (some ⟨b3, 0, none⟩) ws.length ws.length) (.slice (some ⟨b4, 0, none⟩) rs.length rs.length) (.slice (some ⟨b5, 0, none⟩) m m) L X n s ws rs.length y m u) := h
 have HX : Hid (∀ j, j < L -> PLe (X j) 1048576) := hX
 have HSZ : Hid (∀ j, j < n -> (s j).size <= 9223372036854775807) := hsz
 have HW : Hid (ze ws) := hw
 have NI : Hid (zei L X n s ws smz toh top cyc sn old cpz sr y rs.length st sp m ↔ _) := ztq
 have hm' : (m : Int) <= 1048576 := by omega
 clear h hX hR hsz hw
 by_cases c1 : 0 <= st
 rotate_left
 · have c1' : st < 0 := by omega
   go_enter Tryz.func19, Tryz.ntmps19
   go_wp2
   go_ret
   exact ⟨false, rfl, ⟨fun h => (by cases h), fun h => by have := (NI.out.1 h).1; omega⟩, B0⟩
 by_cases c2 : st <= 2
 rotate_left
 · have c2' : 2 < st := by omega
   go_enter Tryz.func19, Tryz.ntmps19
   go_wp2
   go_ret
   exact ⟨false, rfl, ⟨fun h => (by cases h), fun h => by have := (NI.out.1 h).2.1; omega⟩, B0⟩
 by_cases c3 : 0 <= sp
 rotate_left
 · have c3' : sp < 0 := by omega
   go_enter Tryz.func19, Tryz.ntmps19
   go_wp2
   go_ret
   exact ⟨false, rfl, ⟨fun h => (by cases h), fun h => by have := (NI.out.1 h).2.2.1; omega⟩, B0⟩
 by_cases c4 : (m : Int) <= 200
 rotate_left
 · have c4' : 200 < (m : Int) := by omega
   go_enter Tryz.func19, Tryz.ntmps19
   go_wp2
   go_ret
   exact ⟨false, rfl, ⟨fun h => (by cases h), fun h => by have := (NI.out.1 h).2.2.2.1; omega⟩, B0⟩
 have HLD := zgm rfl (zq.new w 45 #[.slice (some ⟨b1, 0, none⟩) L L, .slice (some ⟨b2, 0, none⟩) n n, .slice (some ⟨b3, 0, none⟩) ws.length ws.length, .int .i64 smz, .int .i64 toh, .int .i64 top, .bool cyc, .int .i64 sn, .int .i64 old, .int .i64 cpz, .int .i64 sr, .slice (some ⟨b4, 0, none⟩) rs.length rs.length, .bool fa, .bool de, .bool sh, .int .i64 st, .int .i64 et, .int .i64 en, .int .i64 sp, .slice (some ⟨b5, 0, none⟩) m m]).cell
 go_enter Tryz.func19, Tryz.ntmps19
 go_wp2_with (refine zbq rfl _ _ rfl _ HLD ?_)
 clear HLD
 refine (zkc (some ⟨b1, 0, none⟩) L L (some ⟨b2, 0, none⟩) n n (some ⟨b3, 0, none⟩) ws.length ws.length smz toh top cyc sn old cpz sr b4 rs.length fa de sh st et en sp (some ⟨b5, 0, none⟩) m m y _ (H.out.below B0).rt hrs).mono ?_
 rintro e w1 ⟨q, rfl, hq, d1⟩
 have X0 := (zq.new w 45 #[.slice (some ⟨b1, 0, none⟩) L L, .slice (some ⟨b2, 0, none⟩) n n, .slice (some ⟨b3, 0, none⟩) ws.length ws.length, .int .i64 smz, .int .i64 toh, .int .i64 top, .bool cyc, .int .i64 sn, .int .i64 old, .int .i64 cpz, .int .i64 sr, .slice (some ⟨b4, 0, none⟩) rs.length rs.length, .bool fa, .bool de, .bool sh, .int .i64 st, .int .i64 et, .int .i64 en, .int .i64 sp, .slice (some ⟨b5, 0, none⟩) m m]).below d1 (by simp)
 have B1 := zb B0 d1
 have k0 := X0.cell
 have z1 := X0.lt
 have HQ1 : Hid (q = true ↔ zlx rs.length y) := hq
 clear d1 hq B0
 cases q with
 | false =>
   go_wp2
   go_ret
   exact ⟨false, rfl, ⟨fun h => (by cases h), fun h => absurd (HQ1.out.2 (NI.out.1 h).2.2.2.2.1) (by simp)⟩, B1⟩
 | true =>
 go_wp2_with fail
 refine (zj4 (some ⟨b1, 0, none⟩) L L (some ⟨b2, 0, none⟩) n n X s _ w1 (H.out.below B1).md (Nat.le_refl _) hL hn HX.out HSZ.out).mono ?_
 rintro e w2 ⟨q, rfl, hq, d2⟩
 have X2 := X0.below d2 z1
 have B2 := zb B1 d2
 clear k0 X0 z1
 have k0 := X2.cell
 have HQ2 : Hid (q = true ↔ MOk L X n s) := hq
 clear d2 hq B1
 cases q with
 | false =>
   go_wp2
   go_ret
   exact ⟨false, rfl, ⟨fun h => (by cases h), fun h => absurd (HQ2.out.2 (NI.out.1 h).2.2.2.2.2.1) (by simp)⟩, B2⟩
 | true =>
 go_wp2_with fail
 refine (zgo (some ⟨b3, 0, none⟩) ws.length ws smz toh top cyc sn old cpz sr (some ⟨b4, 0, none⟩) rs.length rs y _ w2 (H.out.below B2).wd (Nat.le_refl _) hws HW.out (H.out.below B2).rt hrs).mono ?_
 rintro e w3 ⟨q, rfl, hq, d3⟩
 have B3 := zb B2 d3
 have HQ3 : Hid (q = true ↔ zdt ws smz toh top cyc sn old cpz sr y rs.length) := hq
 clear d3 hq B2 k0
 go_wp2
 go_ret
 exact ⟨q, rfl, ⟨fun h => NI.out.2 ⟨c1, c2, c3, by omega, HQ1.out.1 (by trivial), HQ2.out.1 (by trivial), HQ3.out.1 h⟩, fun h => HQ3.out.2 (NI.out.1 h).2.2.2.2.2.2⟩, B3⟩
set_option maxHeartbeats 4000000 in
theorem ziq (b1 b2 b3 b4 b5 : Nat) (L n m : Nat) (ws : List Int) (smz toh top : Int) (cyc : Bool) (sn old cpz sr : Int) (rs : List (Int × Int)) (fa de sh : Bool) (st et en sp : Int) (X : Nat -> PtD) (s : Nat -> ByteArray) (y : Nat -> Int) (u : Nat -> ByteArray) (w : World) (h : McF w (.slice (some ⟨b1, 0, none⟩) L L) (.slice (some ⟨b2, 0, none⟩) n n) (.slice (some ⟨b3, 0, none⟩) ws.length ws.length) (.slice (some ⟨b4, 0, none⟩) rs.length rs.length) (.slice (some ⟨b5, 0, none⟩) m m) L X n s ws rs.length y m u) (hL : L <= 1048576) (hn : n <= 1048576) (hX : ∀ j, j < L -> PLe (X j) 1048576) (hws : ws.length <= 1048576) (hrs : rs.length <= 1048576) (hm : m <= 1048576) (hR : ∀ j, j < L -> PLr (X j)) (hsz : ∀ j, j < n -> (s j).size <= 9223372036854775807) (hw : ze ws) :
 Calls Tryz.prog 12 #[.agg #[.slice (some ⟨b1, 0, none⟩) L L, .slice (some ⟨b2, 0, none⟩) n n, .slice (some ⟨b3, 0, none⟩) ws.length ws.length, .int .i64 smz, .int .i64 toh, .int .i64 top, .bool cyc, .int .i64 sn, .int .i64 old, .int .i64 cpz, .int .i64 sr, .slice (some ⟨b4, 0, none⟩) rs.length rs.length, .bool fa, .bool de, .bool sh, .int .i64 st, .int .i64 et, .int .i64 en, .int .i64 sp, .slice (some ⟨b5, 0, none⟩) m m]] w fun e w' => zf1 (zei L X n s ws smz toh top cyc sn old cpz sr y rs.length st sp m) w e w' := by
 have B0 : Below w.heap.size w (w.alloc (.cells #[.slice (some ⟨b1, 0, none⟩) L L, .slice (some ⟨b2, 0, none⟩) n n, .slice (some ⟨b3, 0, none⟩) ws.length ws.length, .int .i64 smz, .int .i64 toh, .int .i64 top, .bool cyc, .int .i64 sn, .int .i64 old, .int .i64 cpz, .int .i64 sr, .slice (some ⟨b4, 0, none⟩) rs.length rs.length, .bool fa, .bool de, .bool sh, .int .i64 st, .int .i64 et, .int .i64 en, .int .i64 sp, .slice (some ⟨b5, 0, none⟩) m m] 45)) := (Below.refl _ _).alloc (Nat.le_refl _) _
 have H : Hid (McF w (.slice (some ⟨b1, 0, none⟩) L L) (.slice (some ⟨b2, 0, none⟩) n n) (.slice (some ⟨b3, 0, none⟩) ws.length ws.length) (.slice (some ⟨b4, 0, none⟩) rs.length rs.length) (.slice (some ⟨b5, 0, none⟩) m m) L X n s ws rs.length y m u) := h
 have HX : Hid (∀ j, j < L -> PLe (X j) 1048576) := hX
 have HRR : Hid (∀ j, j < L -> PLr (X j)) := hR
 have HSZ : Hid (∀ j, j < n -> (s j).size <= 9223372036854775807) := hsz
 have HW : Hid (ze ws) := hw
 have hm' : (m : Int) <= 1048576 := by omega
 have hr' : (rs.length : Int) <= 1048576 := by omega
 clear h hX hR hsz hw
 go_enter Tryz.func12, Tryz.ntmps12
 go_wp2_with fail
 refine (zj5 (some ⟨b1, 0, none⟩) L L (some ⟨b2, 0, none⟩) n n X s _ _ (H.out.below B0).md (Nat.le_refl _) hL hn HX.out HRR.out HSZ.out).mono ?_
 rintro e w1 ⟨q, rfl, hq, d1⟩
 have X0 := (zq.new w 45 #[.slice (some ⟨b1, 0, none⟩) L L, .slice (some ⟨b2, 0, none⟩) n n, .slice (some ⟨b3, 0, none⟩) ws.length ws.length, .int .i64 smz, .int .i64 toh, .int .i64 top, .bool cyc, .int .i64 sn, .int .i64 old, .int .i64 cpz, .int .i64 sr, .slice (some ⟨b4, 0, none⟩) rs.length rs.length, .bool fa, .bool de, .bool sh, .int .i64 st, .int .i64 et, .int .i64 en, .int .i64 sp, .slice (some ⟨b5, 0, none⟩) m m]).below d1 (by simp)
 have B1 := zb B0 d1
 have k0 := X0.cell
 have z1 := X0.lt
 have HQ1 : Hid (q = true ↔ MOk L X n s) := hq
 clear d1 hq B0
 cases q with
 | false =>
   go_wp2
   go_ret
   exact ⟨false, rfl, ⟨fun h => (by cases h), fun h => absurd (HQ1.out.2 h.1) (by simp)⟩, B1⟩
 | true =>
 go_wp2_with fail
 refine (zgn (some ⟨b3, 0, none⟩) ws.length ws smz toh top cyc sn old cpz sr (some ⟨b4, 0, none⟩) rs.length rs y _ w1 (H.out.below B1).wd hws HW.out (H.out.below B1).rt hrs).mono ?_
 rintro e w2 ⟨q, rfl, hq, d2⟩
 have X2 := X0.below d2 z1
 have B2 := zb B1 d2
 clear k0 X0 z1
 have k0 := X2.cell
 have z2 := X2.lt
 have HQ2 : Hid (q = true ↔ zdt ws smz toh top cyc sn old cpz sr y rs.length) := hq
 clear d2 hq B1
 cases q with
 | false =>
   go_wp2
   go_ret
   exact ⟨false, rfl, ⟨fun h => (by cases h), fun h => absurd (HQ2.out.2 h.2.1) (by simp)⟩, B2⟩
 | true =>
 by_cases c0 : rs.length = 6
 rotate_left
 · have c0' : ((rs.length : Int) != 6) = true := by simp; omega
   go_wp2
   go_ret
   exact ⟨false, rfl, ⟨fun h => (by cases h), fun h => absurd h.2.2.1 c0⟩, B2⟩
 have c0' : ((rs.length : Int) != 6) = false := by simp; omega
 by_cases c1 : 0 <= st /\ st <= 2
 rotate_left
 · go_wp2_with (go_at_call 31; refine (zav _ _ _ _ c1).mono ?_; rintro e w' ⟨rfl, rfl⟩)
   go_ret
   exact ⟨false, rfl, ⟨fun h => (by cases h), fun h => absurd ⟨h.2.2.2.1, h.2.2.2.2.1⟩ c1⟩, B2⟩
 by_cases c3 : 0 <= sp
 rotate_left
 · have c3' : sp < 0 := by omega
   go_wp2_with (go_at_call 31; refine (zz _ _ _ _ c1).mono ?_; rintro e w' ⟨rfl, rfl⟩)
   go_ret
   exact ⟨false, rfl, ⟨fun h => (by cases h), fun h => by have := h.2.2.2.2.2.1; omega⟩, B2⟩
 by_cases c4 : (m : Int) <= 200
 rotate_left
 · have c4' : 200 < (m : Int) := by omega
   go_wp2_with (go_at_call 31; refine (zz _ _ _ _ c1).mono ?_; rintro e w' ⟨rfl, rfl⟩)
   go_ret
   exact ⟨false, rfl, ⟨fun h => (by cases h), fun h => by have := h.2.2.2.2.2.2.1; omega⟩, B2⟩
 go_wp2_with (go_at_call 31; refine (zz _ _ _ _ c1).mono ?_; rintro e wz ⟨rfl, hz⟩; subst wz)
 have C0 : Hid (rs.length = 6) := c0
 have c6 : (6 : Int) <= (rs.length : Int) := by omega
 clear c0
 go_loopw [3] (fun i wr => ∃ j : Nat, 1 <= j /\ j <= 6 /\ i = .int .i64 j /\ Hid (∀ p, 1 <= p -> p < j -> y (2 * p) = 0) /\ wr = w2) (fun i _ => 6 - (intOf i).toNat)
 case atStart => exact ⟨1, by omega, by omega, rfl, fun p h1 h2 => by omega, rfl⟩
 case round =>
  obtain ⟨j, hj1, hj, rfl, HP, rfl⟩ := hrel
  by_cases hlt : j < 6
  · have hlt' : (j : Int) < 6 := by omega
    have hlt2 : (j : Int) < (rs.length : Int) := by omega
    obtain ⟨br, offr, cap', hv, _, lbr, hcr⟩ := SlF.parts (H.out.rt.below B2 (Nat.le_refl _)) (k := 0) (by have := C0.out; omega)
    simp only [Value.slice.injEq, Option.some.injEq, Addr.mk.injEq] at hv
    obtain ⟨⟨rfl, rfl, _⟩, _, _⟩ := hv
    have q1 : wr.cell? ⟨b4, 0 + j * 2, none⟩ = some (.int .i64 (y (2 * j))) := by rw [Nat.mul_comm j 2]; exact hcr (2 * j) (by have := C0.out; omega)
    have q1' : wr.cell? ⟨b4, j * 2, none⟩ = some (.int .i64 (y (2 * j))) := by rw [<- q1, Nat.zero_add]
    have NX : Hid (zei L X n s ws smz toh top cyc sn old cpz sr y rs.length st sp m -> y (2 * j) = 0) := fun h => h.2.2.2.2.2.2.2 j hj1 hlt
    have NY : Hid (y (2 * j) = 0 -> ∀ p, 1 <= p -> p < j + 1 -> y (2 * p) = 0) := fun h1 p p1 p2 => by
     by_cases e : p = j
     · subst e; exact h1
     · exact HP.out p p1 (by omega)
    generalize y (2 * j) = ta at q1 q1' NX NY
    clear hcr
    by_cases g : ta = 0
    · subst g
      have HV := NY.out rfl
      have HV' : Hid (∀ p, 1 <= p -> p < j + 1 -> y (2 * p) = 0) := HV
      clear HV
      go_wp2
      go_roundw
      case rel => exact ⟨j + 1, by omega, by omega, by go_num, HV', by first | rfl | trivial⟩
      case measure => simp [intOf]; omega
    · have HV : Hid (¬ zei L X n s ws smz toh top cyc sn old cpz sr y rs.length st sp m) := fun h => g (NX.out h)
      have g' : (ta != 0) = true := by simp [g]
      clear g
      go_wp2
      go_ret
      exact ⟨false, rfl, ⟨fun h => (by cases h), fun h => absurd h HV.out⟩, B2⟩
  · have hge : (6 : Int) <= (j : Int) := by omega
    go_wp2
    go_ret
    exact ⟨true, rfl, ⟨fun _ => ⟨HQ1.out.1 (by trivial), HQ2.out.1 (by trivial), C0.out, c1.1, c1.2, c3, by omega, fun i i1 i2 => HP.out i i1 (by omega)⟩, fun _ => rfl⟩, B2⟩
end Go.Proofs.YtglolopfeambfaaGreat
