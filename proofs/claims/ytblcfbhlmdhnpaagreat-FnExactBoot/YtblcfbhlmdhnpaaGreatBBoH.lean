/- - -/
import Derived.Test.YtblcfbhlmdhnpaaGreatBArnA
import Derived.Test.YtblcfbhlmdhnpaaGreatBMdE
import Derived.Test.YtblcfbhlmdhnpaaGreatBMc20
import Derived.Test.YtblcfbhlmdhnpaaGreatBMrE
namespace Go.Proofs.YtblcfbhlmdhnpaaGreat
set_option maxRecDepth 20000
open Go.RowKit Go.PlainAid
set_option linter.unusedSimpArgs false
set_option linter.unusedVariables false
structure McR (w : World) (v1 v2 vw vr vo : Value) (L : Nat) (X : Nat -> PtD) (n : Nat) (s : Nat -> ByteArray) (wl : Nat) (z : Nat -> Int) (rl : Nat) (y : Nat -> Int) (m : Nat) (u : Nat -> ByteArray) : Prop where
 md : MdF w.heap.size w v1 v2 L X n s
 wd : SlF w.heap.size w vw wl wl (fun i => .int .u64 (z i))
 rt : SlF w.heap.size w vr rl (2 * rl) (fun i => .int .i64 (y i))
 ot : TxF w.heap.size w vo m u
theorem McR.below {w w' : World} {v1 v2 vw vr vo : Value} {L : Nat} {X : Nat -> PtD} {n : Nat} {s : Nat -> ByteArray} {wl : Nat} {z : Nat -> Int} {rl : Nat} {y : Nat -> Int} {m : Nat} {u : Nat -> ByteArray} (h : McR w v1 v2 vw vr vo L X n s wl z rl y m u) (hb : Below w.heap.size w w') : McR w' v1 v2 vw vr vo L X n s wl z rl y m u :=
 ⟨(h.md.below hb (Nat.le_refl _)).mono hb.size, (h.wd.below hb (Nat.le_refl _)).mono hb.size, (h.rt.below hb (Nat.le_refl _)).mono hb.size, (h.ot.below hb (Nat.le_refl _)).mono hb.size⟩
theorem PtW.ptF {ow : Nat -> Nat} {B g : Nat} {w : World} {a : Option Addr} {L c : Nat} {X : Nat -> PtD} {au : Nat -> Option Addr} {cu : Nat -> Nat} {ac : Nat -> Option Addr} {cc : Nat -> Nat} (h : PtW ow B g w a L X au cu ac cc) : PtF w.heap.size w (.slice a L c) L X := by
 rcases h.row with h0 | ⟨b, M, f, rfl, e, hB, hm, hr, hf⟩
 · exact ⟨_, _, rfl, .inl (by omega)⟩
 · refine ⟨_, _, rfl, .inr ⟨b, 0, rfl, hr.lt, hr.lt, fun i hi => ⟨au i, cu i, ac i, cc i, ?_, ?_, ?_, ?_, (h.ups i hi).sl _ _, (h.cod i hi).sl _ _⟩⟩⟩
   · rw [Nat.zero_add, hr.cell (by omega), hf _ (by omega), za0]
   · rw [Nat.zero_add, hr.cell (by omega), hf _ (by omega), zaq]
   · rw [Nat.zero_add, hr.cell (by omega), hf _ (by omega), zaj]
   · rw [Nat.zero_add, hr.cell (by omega), hf _ (by omega), zak]
theorem MdW.mdF {ow : Nat -> Nat} {B g : Nat} {w : World} {a1 : Option Addr} {L c1 : Nat} {X : Nat -> PtD} {au : Nat -> Option Addr} {cu : Nat -> Nat} {ac : Nat -> Option Addr} {cc : Nat -> Nat} {a2 : Option Addr} {n c2 : Nat} {s : Nat -> ByteArray} (h : MdW ow B g w a1 L X au cu ac cc a2 n s) : MdF w.heap.size w (.slice a1 L c1) (.slice a2 n c2) L X n s := ⟨h.pt.ptF, h.tx.sl _ _⟩
theorem MwW.mcR {ow : Nat -> Nat} {B g : Nat} {w : World} {a1 : Option Addr} {L c1 : Nat} {X : Nat -> PtD} {au : Nat -> Option Addr} {cu : Nat -> Nat} {ac : Nat -> Option Addr} {cc : Nat -> Nat} {a2 : Option Addr} {n c2 : Nat} {s : Nat -> ByteArray} {aw : Option Addr} {wl cw : Nat} {z : Nat -> Int} {ar : Option Addr} {rl cr : Nat} {y : Nat -> Int} {ao : Option Addr} {m co : Nat} {u : Nat -> ByteArray} (h : MwW ow B g w a1 L X au cu ac cc a2 n s aw wl (fun i => .int .u64 (z i)) ar rl (fun i => .int .i64 (y i)) ao m u) : McR w (.slice a1 L c1) (.slice a2 n c2) (.slice aw wl cw) (.slice ar rl cr) (.slice ao m co) L X n s wl z rl y m u :=
 ⟨h.md.mdF, h.wd.sl _ _, h.rt.sl _ _, h.ot.sl _ _⟩
set_option maxHeartbeats 4000000 in
theorem za9 (L n m wl rl : Nat) (z : Nat -> Int) (smz toh top : Int) (cyc : Bool) (sn old cp srz : Int) (fa de sh : Bool) (st et en sp : Int) (X : Nat -> PtD) (s : Nat -> ByteArray) (y : Nat -> Int) (u : Nat -> ByteArray) (p1 p2 p3 p4 p5 : Option Addr) (pc1 pc2 pc3 pc4 pc5 : Nat) (q1 q2 q3 q4 q5 : Option Addr) (qc1 qc2 qc3 qc4 qc5 : Nat)  (w : World) (h1 : McR w (.slice p1 L pc1) (.slice p2 n pc2) (.slice p3 wl pc3) (.slice p4 rl pc4) (.slice p5 m pc5) L X n s wl z rl y m u) (h2 : McR w (.slice q1 L qc1) (.slice q2 n qc2) (.slice q3 wl qc3) (.slice q4 rl qc4) (.slice q5 m qc5) L X n s wl z rl y m u) (hL : L <= 1048576) (hn : n <= 1048576) (hX : ∀ j, j < L -> PLe (X j) 1048576) (hws : wl <= 1048576) (hrs : rl <= 1048576) (hm : m <= 1048576) :
 Calls Tryz.prog 8 #[.agg #[.slice p1 L pc1, .slice p2 n pc2, .slice p3 wl pc3, .int .i64 smz, .int .i64 toh, .int .i64 top, .bool cyc, .int .i64 sn, .int .i64 old, .int .i64 cp, .int .i64 srz, .slice p4 rl pc4, .bool fa, .bool de, .bool sh, .int .i64 st, .int .i64 et, .int .i64 en, .int .i64 sp, .slice p5 m pc5], .agg #[.slice q1 L qc1, .slice q2 n qc2, .slice q3 wl qc3, .int .i64 smz, .int .i64 toh, .int .i64 top, .bool cyc, .int .i64 sn, .int .i64 old, .int .i64 cp, .int .i64 srz, .slice q4 rl qc4, .bool fa, .bool de, .bool sh, .int .i64 st, .int .i64 et, .int .i64 en, .int .i64 sp, .slice q5 m qc5]] w fun e w' => e = .returned (.bool true) /\ Below w.heap.size w w' := by
 have H1 : Hid (McR w (.slice p1 L pc1) (.slice p2 n pc2) (.slice p3 wl pc3) (.slice p4 rl pc4) (.slice p5 m pc5) L X n s wl z rl y m u) := h1
 have H2 : Hid (McR w (.slice q1 L qc1) (.slice q2 n qc2) (.slice q3 wl qc3) (.slice q4 rl qc4) (.slice q5 m qc5) L X n s wl z rl y m u) := h2
 have HX : Hid (∀ j, j < L -> PLe (X j) 1048576) := hX
 have B0 : Below w.heap.size w ((w.alloc (.cells #[.slice p1 L pc1, .slice p2 n pc2, .slice p3 wl pc3, .int .i64 smz, .int .i64 toh, .int .i64 top, .bool cyc, .int .i64 sn, .int .i64 old, .int .i64 cp, .int .i64 srz, .slice p4 rl pc4, .bool fa, .bool de, .bool sh, .int .i64 st, .int .i64 et, .int .i64 en, .int .i64 sp, .slice p5 m pc5] 37)).alloc (.cells #[.slice q1 L qc1, .slice q2 n qc2, .slice q3 wl qc3, .int .i64 smz, .int .i64 toh, .int .i64 top, .bool cyc, .int .i64 sn, .int .i64 old, .int .i64 cp, .int .i64 srz, .slice q4 rl qc4, .bool fa, .bool de, .bool sh, .int .i64 st, .int .i64 et, .int .i64 en, .int .i64 sp, .slice q5 m qc5] 37)) := ((Below.refl _ _).alloc (Nat.le_refl _) _).alloc (by simp) _
 clear h1 h2 hX
 go_enter Tryz.func8, Tryz.ntmps8
 go_wp2_with fail
 obtain ⟨W, hW⟩ : ∃ W, W = (w.alloc (.cells #[.slice p1 L pc1, .slice p2 n pc2, .slice p3 wl pc3, .int .i64 smz, .int .i64 toh, .int .i64 top, .bool cyc, .int .i64 sn, .int .i64 old, .int .i64 cp, .int .i64 srz, .slice p4 rl pc4, .bool fa, .bool de, .bool sh, .int .i64 st, .int .i64 et, .int .i64 en, .int .i64 sp, .slice p5 m pc5] 37)).alloc (.cells #[.slice q1 L qc1, .slice q2 n qc2, .slice q3 wl qc3, .int .i64 smz, .int .i64 toh, .int .i64 top, .bool cyc, .int .i64 sn, .int .i64 old, .int .i64 cp, .int .i64 srz, .slice q4 rl qc4, .bool fa, .bool de, .bool sh, .int .i64 st, .int .i64 et, .int .i64 en, .int .i64 sp, .slice q5 m qc5] 37) := ⟨_, rfl⟩
 have x0 : za W w.heap.size 37 #[.slice p1 L pc1, .slice p2 n pc2, .slice p3 wl pc3, .int .i64 smz, .int .i64 toh, .int .i64 top, .bool cyc, .int .i64 sn, .int .i64 old, .int .i64 cp, .int .i64 srz, .slice p4 rl pc4, .bool fa, .bool de, .bool sh, .int .i64 st, .int .i64 et, .int .i64 en, .int .i64 sp, .slice p5 m pc5] := by rw [hW]; exact (za.new _ _ _).alloc _
 have x1 : za W (w.heap.size + 1) 37 #[.slice q1 L qc1, .slice q2 n qc2, .slice q3 wl qc3, .int .i64 smz, .int .i64 toh, .int .i64 top, .bool cyc, .int .i64 sn, .int .i64 old, .int .i64 cp, .int .i64 srz, .slice q4 rl qc4, .bool fa, .bool de, .bool sh, .int .i64 st, .int .i64 et, .int .i64 en, .int .i64 sp, .slice q5 m qc5] := by rw [hW]; have := za.new (w.alloc (.cells #[.slice p1 L pc1, .slice p2 n pc2, .slice p3 wl pc3, .int .i64 smz, .int .i64 toh, .int .i64 top, .bool cyc, .int .i64 sn, .int .i64 old, .int .i64 cp, .int .i64 srz, .slice p4 rl pc4, .bool fa, .bool de, .bool sh, .int .i64 st, .int .i64 et, .int .i64 en, .int .i64 sp, .slice p5 m pc5] 37)) 37 #[.slice q1 L qc1, .slice q2 n qc2, .slice q3 wl qc3, .int .i64 smz, .int .i64 toh, .int .i64 top, .bool cyc, .int .i64 sn, .int .i64 old, .int .i64 cp, .int .i64 srz, .slice q4 rl qc4, .bool fa, .bool de, .bool sh, .int .i64 st, .int .i64 et, .int .i64 en, .int .i64 sp, .slice q5 m qc5]; simpa using this
 have zW : w.heap.size + 1 < W.heap.size := x1.lt
 rw [<- hW] at B0 ⊢
 clear hW
 have P1 := H1.out.below B0
 have P2 := H2.out.below B0
 refine (zbm _ _ _ _ _ _ _ _ _ _ X s _ _ P1.md P2.md (Nat.le_refl _) hL hn HX.out).mono ?_
 rintro e w1 ⟨rfl, d1⟩
 have B1 := zb B0 d1
 have X0 := x0.below d1 (by omega)
 have X1 := x1.below d1 zW
 have k0 := X0.cell
 have k1 := X1.cell
 have z1 : w.heap.size + 1 < w1.heap.size := X1.lt
 clear d1 x0 x1 zW B0 P1 P2
 go_wp2_with fail
 have P1 := H1.out.below B1
 have P2 := H2.out.below B1
 refine (zd9 _ _ _ _ _ _ _ _ wl rl z y smz toh top cyc sn old cp srz w1 (P1.wd) (P2.wd) hws P1.rt P2.rt hrs).mono ?_
 rintro e w2 ⟨rfl, d2⟩
 have B2 := zb B1 d2
 have Y0 := X0.below d2 (by omega)
 have Y1 := X1.below d2 z1
 clear X0 X1 k0 k1
 have k0 := Y0.cell
 have k1 := Y1.cell
 have z2 : w.heap.size + 1 < w2.heap.size := Y1.lt
 clear d2 z1 B1 P1 P2
 go_wp2_with fail
 refine (zcs et en _).mono ?_
 rintro e w3 ⟨rfl, d3⟩
 have B3 := zb B2 d3
 have X0 := Y0.below d3 (by omega)
 have X1 := Y1.below d3 z2
 clear Y0 Y1 k0 k1
 have k0 := X0.cell
 have k1 := X1.cell
 clear d3 z2 B2
 go_wp2_with fail
 have P1 := H1.out.below B3
 have P2 := H2.out.below B3
 refine (zbb _ _ _ _ m _ _ u w3 P1.ot P2.ot hm).mono ?_
 rintro e w4 ⟨rfl, d4⟩
 have B4 := zb B3 d4
 clear d4 P1 P2
 go_wp2
 go_ret
 exact ⟨rfl, B4⟩
end Go.Proofs.YtblcfbhlmdhnpaaGreat
