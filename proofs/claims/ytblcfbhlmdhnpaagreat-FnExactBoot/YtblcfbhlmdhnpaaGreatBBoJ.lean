/- - -/
import Derived.Test.YtblcfbhlmdhnpaaGreatBBoX
import Derived.Test.YtblcfbhlmdhnpaaGreatBBoF
import Derived.Test.YtblcfbhlmdhnpaaGreatBBoH
import Derived.Test.YtblcfbhlmdhnpaaGreatBBoK
namespace Go.Proofs.YtblcfbhlmdhnpaaGreat
set_option maxRecDepth 20000
open Go.RowKit Go.PlainAid
set_option linter.unusedSimpArgs false
set_option linter.unusedVariables false
theorem zfz (L n : Nat) (X : Nat -> PtD) (s : Nat -> ByteArray) (smz : Int) (hL : L <= 1048576) (hn : n <= 1048576) (hX : ∀ j, j < L -> PLe (X j) 1048576) (hR : ∀ j, j < L -> PLr (X j)) (hsz : ∀ j, j < n -> (s j).size <= 9223372036854775807) (hk : ptP X 1 L <= 2097153) :
 ∃ (q : Bool) (L' : Nat) (X' : Nat -> PtD) (n' : Nat) (s' : Nat -> ByteArray) (wl : Nat) (z : Nat -> Int) (rl : Nat) (y : Nat -> Int) (u : Nat -> ByteArray) (sm tp sr : Int), L' <= 1048576 /\ n' <= 1048576 /\ (∀ j, j < L' -> PLe (X' j) 1048576) /\ wl <= 1048576 /\ rl <= 1048576 /\ ptP X' 1 L' <= 2097153 /\
   (∀ (a1 : Option Addr) (c1 : Nat) (a2 : Option Addr) (c2 : Nat) (W : World), MdF W.heap.size W (.slice a1 L c1) (.slice a2 n c2) L X n s -> Calls Tryz.prog 5 #[.agg #[.slice a1 L c1, .slice a2 n c2], .int .i64 smz] W fun e w' => ∃ (p1 : Option Addr) (d1 : Nat) (p2 : Option Addr) (d2 : Nat) (p3 : Option Addr) (d3 : Nat) (p4 : Option Addr) (d4 : Nat), e = .returned (.tuple #[.agg #[.slice p1 L' d1, .slice p2 n' d2, .slice p3 wl d3, .int .i64 sm, .int .i64 0, .int .i64 tp, .bool false, .int .i64 0, .int .i64 0, .int .i64 0, .int .i64 sr, .slice p4 rl d4, .bool false, .bool false, .bool false, .int .i64 0, .int .i64 0, .int .i64 0, .int .i64 0, .slice none 0 0], .bool q]) /\ McR w' (.slice p1 L' d1) (.slice p2 n' d2) (.slice p3 wl d3) (.slice p4 rl d4) (.slice none 0 0) L' X' n' s' wl z rl y 0 u /\ Below W.heap.size W w') /\
   (∀ (a1 : Option Addr) (c1 : Nat) (a2 : Option Addr) (c2 : Nat) (W : World), MdF W.heap.size W (.slice a1 L c1) (.slice a2 n c2) L X n s -> Calls Tryz.prog 7 #[.agg #[.slice a1 L c1, .slice a2 n c2], .int .i64 smz] W fun e w' => ∃ (ow : Nat -> Nat) (au : Nat -> Option Addr) (cu : Nat -> Nat) (ac : Nat -> Option Addr) (cc : Nat -> Nat) (p1 : Option Addr) (d1 : Nat) (p2 : Option Addr) (d2 : Nat) (p3 : Option Addr) (d3 : Nat) (p4 : Option Addr) (d4 : Nat), e = .returned (.tuple #[.agg #[.slice p1 L' d1, .slice p2 n' d2, .slice p3 wl d3, .int .i64 sm, .int .i64 0, .int .i64 tp, .bool false, .int .i64 0, .int .i64 0, .int .i64 0, .int .i64 sr, .slice p4 rl d4, .bool false, .bool false, .bool false, .int .i64 0, .int .i64 0, .int .i64 0, .int .i64 0, .slice none 0 0], .bool q]) /\ MwW ow W.heap.size 1 w' p1 L' X' au cu ac cc p2 n' s' p3 wl (fun i => .int .u64 (z i)) p4 rl (fun i => .int .i64 (y i)) none 0 u /\ (∀ j, j < W.heap.size -> ow j = 0) /\ (∀ j, w'.heap.size <= j -> ow j = 0) /\ Below W.heap.size W w') := by
 rcases Classical.em (inB smz 256 4000 = true /\ MOk L X n s) with ⟨hs, hm⟩ | hno
 · have hs2 : 256 <= smz /\ smz <= 4000 := by simpa [inB] using hs
   refine ⟨true, L, X, n, s, (2 * smz).toNat, zj (btW (2 * smz).toNat (X 0).sl), 6, btR, fun _ => ⟨#[]⟩, smz, 130, 3, hL, hn, hX, by omega, by omega, hk, fun a1 c1 a2 c2 W h => ?_, fun a1 c1 a2 c2 W h => ?_⟩
   · refine (zd0 a1 L c1 a2 n c2 X s smz W h hL hn hX hR hsz hs2.1 hs2.2 hm).mono ?_
     rintro e w' ⟨v1, v2, bw, cw, br, cr, rfl, hp, ht, hw, hr, hb⟩
     obtain ⟨q1, d1, rfl, hp'⟩ := hp
     obtain ⟨q2, d2, rfl, ht'⟩ := ht
     refine ⟨q1, d1, q2, d2, _, cw, _, cr, rfl, ⟨⟨⟨_, _, rfl, hp'⟩, ⟨_, _, rfl, ht'⟩⟩, ?_, Rw.slF hr, ⟨_, _, rfl, .inl rfl⟩⟩, hb⟩
     have := Rw.slF (n := (2 * smz).toNat) (c := cw) hw
     rw [zb5] at this
     exact this
   · refine (zen a1 L c1 a2 n c2 X s smz W h hL hn hX hsz hs2.1 hs2.2 hm).mono ?_
     rintro e w' ⟨ow, bp, d1, au, cu, ac, cc, b2, d2, bw, br, rfl, hM, g1, g2, hb⟩
     exact ⟨ow, au, cu, ac, cc, _, d1, b2, d2, _, _, _, _, rfl, hM, g1, g2, hb⟩
 · have hno' : inB smz 256 4000 = false \/ (256 <= smz /\ smz <= 4000) /\ ¬ MOk L X n s := by
    cases hs : inB smz 256 4000 with
    | false => exact .inl rfl
    | true => exact .inr ⟨by simpa [inB] using hs, fun hm => hno ⟨hs, hm⟩⟩
   refine ⟨false, 0, X, 0, s, 0, fun _ => 0, 0, fun _ => 0, fun _ => ⟨#[]⟩, 0, 0, 0, by omega, by omega, fun j hj => absurd hj (Nat.not_lt_zero _), by omega, by omega, by show (1 : Int) <= 2097153; omega, fun a1 c1 a2 c2 W h => ?_, fun a1 c1 a2 c2 W h => ?_⟩
   · have : Calls Tryz.prog 5 #[.agg #[.slice a1 L c1, .slice a2 n c2], .int .i64 smz] W fun e w' => e = .returned (.tuple #[.agg #[.slice none 0 0, .slice none 0 0, .slice none 0 0, .int .i64 0, .int .i64 0, .int .i64 0, .bool false, .int .i64 0, .int .i64 0, .int .i64 0, .int .i64 0, .slice none 0 0, .bool false, .bool false, .bool false, .int .i64 0, .int .i64 0, .int .i64 0, .int .i64 0, .slice none 0 0], .bool false]) /\ Below W.heap.size W w' := by
      rcases hno' with hs | ⟨hs, hm⟩
      · exact zd1 a1 L c1 a2 n c2 smz W hs
      · exact zd2 a1 L c1 a2 n c2 X s smz W h hL hn hX hR hsz hs.1 hs.2 hm
     exact this.mono fun e w' ⟨he, hb⟩ => ⟨none, 0, none, 0, none, 0, none, 0, he, ⟨⟨⟨_, _, rfl, .inl rfl⟩, ⟨_, _, rfl, .inl rfl⟩⟩, ⟨_, _, rfl, .inl rfl⟩, ⟨_, _, rfl, .inl rfl⟩, ⟨_, _, rfl, .inl rfl⟩⟩, hb⟩
   · have : Calls Tryz.prog 7 #[.agg #[.slice a1 L c1, .slice a2 n c2], .int .i64 smz] W fun e w' => e = .returned (.tuple #[.agg #[.slice none 0 0, .slice none 0 0, .slice none 0 0, .int .i64 0, .int .i64 0, .int .i64 0, .bool false, .int .i64 0, .int .i64 0, .int .i64 0, .int .i64 0, .slice none 0 0, .bool false, .bool false, .bool false, .int .i64 0, .int .i64 0, .int .i64 0, .int .i64 0, .slice none 0 0], .bool false]) /\ Below W.heap.size W w' := by
      rcases hno' with hs | ⟨hs, hm⟩
      · exact zel a1 L c1 a2 n c2 smz W hs
      · exact zem a1 L c1 a2 n c2 X s smz W h hL hn hX hsz hs.1 hs.2 hm
     exact this.mono fun e w' ⟨he, hb⟩ => ⟨fun _ => 0, fun _ => none, fun _ => 0, fun _ => none, fun _ => 0, none, 0, none, 0, none, 0, none, 0, he, ⟨⟨⟨.inl rfl, fun i hi => absurd hi (Nat.not_lt_zero _), fun i hi => absurd hi (Nat.not_lt_zero _)⟩, .inl rfl⟩, .inl rfl, .inl rfl, .inl rfl⟩, fun _ _ => rfl, fun _ _ => rfl, hb⟩
theorem zc.other {ow ow' : Nat -> Nat} {p : Nat -> Prop} {a b : World} (h : zc ow p a b) (hk : ∀ k, ow' k ≠ 0 -> ¬ p (ow k)) : zc ow' (fun t => t = 0) a b := ⟨h.os, h.tape, h.output, h.size, fun k hl hn => h.block k hl (hk k hn)⟩
theorem zba {P : Program} {w : World} {ops : Array Oper} {rest : List Oper} {o : Oper} {a : Act} {Q : Exit -> Act -> World -> Prop} (hw : Region.wanted o (yielded ops a.tmps) = true) (t : TypeId) (x : Operand) (ho : o.op = .load t x) (v : Value) (hr : (Instr.loadAt t (a.eval x)).run P w = .ok v w) (h : wpList P ops Q rest (a.put o.dst v) w) : wpList P ops Q (o :: rest) a w := by
 refine BigFrame.wpList_want hw fun K hK => ?_
 unfold Oper.wp execOp
 simp only [ho, Sem.run_bind, Sem.run_pure, Result.andThen_ok, hr]
 exact hK _ _ h
set_option maxHeartbeats 4000000 in
theorem zhb (a1 : Option Addr) (c1 L1 : Nat) (v1 : Option Addr) (d1 n1 : Nat) (X : Nat -> PtD) (s1 : Nat -> ByteArray) (smz : Int) (w : World) (hs1 : MdF w.heap.size w (.slice a1 L1 c1) (.slice v1 n1 d1) L1 X n1 s1) (m3 : L1 <= 9223372036854775807) (m4 : n1 <= 9223372036854775807) (hX : ∀ j, j < L1 -> PLr (X j)) (gX : ∀ j, j < n1 -> (s1 j).size <= 9223372036854775807) :
 Calls Tryz.prog 3 #[.agg #[.slice a1 L1 c1, .slice v1 n1 d1], .int .i64 smz] w fun e w' => e = .returned (.bool true) /\ Below w.heap.size w w' := by
 have HZ1 : Hid (∀ (W : World) (left : Int), Below w.heap.size w W -> 0 <= left -> left <= 1048576 -> _) := fun W (left : Int) (hW : Below w.heap.size w W) h0 h1 => zer a1 L1 c1 X v1 n1 d1 s1 w.heap.size left W (hs1.1.below hW (Nat.le_refl _)) (hs1.2.below hW (Nat.le_refl _)) hW.size h0 h1 m3 (fun j hj => (hX j hj).1) m4 gX
 have HS1 : Hid (MdF w.heap.size w (.slice a1 L1 c1) (.slice v1 n1 d1) L1 X n1 s1) := hs1
 have HRG : Hid (∀ j, j < L1 -> PLr (X j)) := hX
 have HGX : Hid (∀ j, j < n1 -> (s1 j).size <= 9223372036854775807) := gX
 clear hs1 hX gX
 have B0 : Below w.heap.size w (w.alloc (.cells #[.slice a1 L1 c1, .slice v1 n1 d1] 25)) := (Below.refl _ _).alloc (Nat.le_refl _) _
 go_enter Tryz.func3, Tryz.ntmps3
 go_wp2_with fail
 refine (HZ1.out _ _ B0 (by omega) (by omega)).mono ?_
 rintro e w2 ⟨r, rfl, hr, b1⟩
 have B2 := B0.trans (b1.mono (by simp))
 have K2 : za w2 w.heap.size 25 #[.slice a1 L1 c1, .slice v1 n1 d1] := (za.new w _ _).below b1 (by simp)
 clear b1
 rcases hr with rfl | ⟨r0, r1, l3, hX2, l5, lsum⟩
 · go_wp2
   go_ret
   exact ⟨rfl, B2⟩
 obtain ⟨q0, L', X', n', s', wl, z, rl, y, u, sm, tp, sr, gL, gn, gX', gw, gr, gk, hSP, hIM⟩ := zfz L1 n1 X s1 smz l3 l5 hX2 HRG.out HGX.out (by omega)
 have HX1 : Hid (∀ j, j < L1 -> PLe (X j) 1048576) := hX2
 have GX : Hid (∀ j, j < L' -> PLe (X' j) 1048576) := gX'
 have HSP : Hid _ := hSP
 have HIM : Hid _ := hIM
 obtain ⟨kt, hkt⟩ : ∃ kt : Nat, ptP X ((1 : Nat) : Int) L1 = (kt : Int) := ⟨(ptP X 1 L1).toNat, by have := zap X 1 L1; show ptP X 1 L1 = _; omega⟩
 obtain ⟨km, hkm⟩ : ∃ km : Nat, ptP X' ((1 : Nat) : Int) L' = (km : Int) := ⟨(ptP X' 1 L').toNat, by have := zap X' 1 L'; show ptP X' 1 L' = _; omega⟩
 have lt1 : (kt : Int) <= 2097153 := by rw [<- hkt]; show ptP X 1 L1 <= _; omega
 have lt2 : (km : Int) <= 2097153 := by rw [<- hkm]; exact gk
 have HKT : Hid (ptP X ((1 : Nat) : Int) L1 = (kt : Int)) := hkt
 have HKM : Hid (ptP X' ((1 : Nat) : Int) L' = (km : Int)) := hkm
 have HT1 : Hid (∀ W, Below w.heap.size w W -> _) := fun W (hW : Below w.heap.size w W) => zeu a1 L1 c1 v1 n1 d1 X s1 w.heap.size W (HS1.out.below hW (Nat.le_refl _)) hW.size l3 l5 HX1.out
 have HT2 : Hid (∀ W, Below w.heap.size w W -> _) := fun W (hW : Below w.heap.size w W) => zep a1 L1 c1 v1 n1 d1 X s1 w.heap.size W (HS1.out.below hW (Nat.le_refl _)) hW.size l3 l5 HX1.out
 clear hX2 HZ1 gX' hSP hIM hkt hkm lsum gk
 have k20 := K2.cell 0
 have k21 := K2.cell 1
 simp at k20 k21
 go_wp2_with fail
 refine (HT1.out _ B2).mono ?_
 rintro e wA ⟨x1, y1, rfl, sA, bA⟩
 have BA := zb B2 bA
 have KA := K2.below bA K2.lt
 clear bA k20 k21 K2
 go_wp2_with fail
 refine (HSP.out _ _ _ _ _ sA).mono ?_
 rintro e w3 ⟨p1a, d1a, p2a, d2a, p3a, d3a, p4a, d4a, rfl, M3, b3⟩
 have B3 := zb BA b3
 have K3 := KA.below b3 KA.lt
 have HM3 : Hid _ := M3
 have zz0 : w.heap.size < w3.heap.size := K3.lt
 have HST := zt (A := #[.slice p1a L' d1a, .slice p2a n' d2a, .slice p3a wl d3a, .int .i64 sm, .int .i64 0, .int .i64 tp, .bool false, .int .i64 0, .int .i64 0, .int .i64 0, .int .i64 sr, .slice p4a rl d4a, .bool false, .bool false, .bool false, .int .i64 0, .int .i64 0, .int .i64 0, .int .i64 0, .slice none 0 0]) rfl rfl (by simp [Value.oneCell']) (za.new w3 37 #[.slice none 0 0, .slice none 0 0, .slice none 0 0, .int .i64 0, .int .i64 0, .int .i64 0, .bool false, .int .i64 0, .int .i64 0, .int .i64 0, .int .i64 0, .slice none 0 0, .bool false, .bool false, .bool false, .int .i64 0, .int .i64 0, .int .i64 0, .int .i64 0, .slice none 0 0])
 clear b3 sA KA M3 BA B2 HSP
 go_upto_region 6 with (refine zi rfl _ _ _ rfl HST ?_)
 obtain ⟨W3, hW3⟩ : ∃ V, V = (w3.alloc (.cells #[.slice none 0 0, .slice none 0 0, .slice none 0 0, .int .i64 0, .int .i64 0, .int .i64 0, .bool false, .int .i64 0, .int .i64 0, .int .i64 0, .int .i64 0, .slice none 0 0, .bool false, .bool false, .bool false, .int .i64 0, .int .i64 0, .int .i64 0, .int .i64 0, .slice none 0 0] 37)).setRow w3.heap.size #[.slice p1a L' d1a, .slice p2a n' d2a, .slice p3a wl d3a, .int .i64 sm, .int .i64 0, .int .i64 tp, .bool false, .int .i64 0, .int .i64 0, .int .i64 0, .int .i64 sr, .slice p4a rl d4a, .bool false, .bool false, .bool false, .int .i64 0, .int .i64 0, .int .i64 0, .int .i64 0, .slice none 0 0] := ⟨_, rfl⟩
 rw [<- hW3]
 have bW3 : Below w3.heap.size w3 W3 := by rw [hW3]; exact zx _ ((Below.refl _ _).alloc (Nat.le_refl _) _) (Nat.le_refl _)
 have XW : za W3 w3.heap.size 37 #[.slice p1a L' d1a, .slice p2a n' d2a, .slice p3a wl d3a, .int .i64 sm, .int .i64 0, .int .i64 tp, .bool false, .int .i64 0, .int .i64 0, .int .i64 0, .int .i64 sr, .slice p4a rl d4a, .bool false, .bool false, .bool false, .int .i64 0, .int .i64 0, .int .i64 0, .int .i64 0, .slice none 0 0] := by rw [hW3]; exact (za.new _ _ _).row _
 have J3 := K3.below bW3 K3.lt
 have B3' := zb B3 bW3
 have BM3 : Hid (Below w3.heap.size w3 W3) := bW3
 clear hW3 bW3 K3 B3 HST
 have k20 := J3.cell 0
 have k21 := J3.cell 1
 simp at k20 k21
 go_wp2_with fail
 refine (HT2.out _ B3').mono ?_
 rintro e w4 ⟨ow1, x5, y5, au1, cu1, ac1, cc1, rfl, D4, lo1, hi1, b4⟩
 have B4 := zb B3' b4
 have K4 := J3.below b4 J3.lt
 have Y4 := XW.below b4 XW.lt
 have BM4 : Hid (Below w3.heap.size w3 w4) := zb BM3.out b4
 have HD4 : Hid _ := D4
 have HLo1 : Hid _ := lo1
 have HHi1 : Hid _ := hi1
 have zz1 : w3.heap.size < W3.heap.size := XW.lt
 have zz2 : W3.heap.size <= w4.heap.size := b4.size
 clear b4 k20 k21 J3 XW BM3 D4 lo1 hi1 B3'
 go_upto_region 7 with fail
 obtain ⟨W4, hW4⟩ : ∃ V, V = w4.alloc (.cells #[.slice (some ⟨x5, 0, none⟩) L1 L1, .slice (some ⟨y5, 0, none⟩) n1 n1] 29) := ⟨_, rfl⟩
 rw [<- hW4]
 have bW4 : Below w4.heap.size w4 W4 := by rw [hW4]; exact (Below.refl _ _).alloc (Nat.le_refl _) _
 have XX : za W4 w4.heap.size 29 #[.slice (some ⟨x5, 0, none⟩) L1 L1, .slice (some ⟨y5, 0, none⟩) n1 n1] := by rw [hW4]; exact za.new _ _ _
 have J4 := K4.below bW4 K4.lt
 have Y4' := Y4.below bW4 Y4.lt
 have B4' := zb B4 bW4
 have BMx : Hid (Below w3.heap.size w3 W4) := zb BM4.out bW4
 have HD : Hid (MdW ow1 W3.heap.size 1 W4 (some ⟨x5, 0, none⟩) L1 X au1 cu1 ac1 cc1 (some ⟨y5, 0, none⟩) n1 s1) := HD4.out.kept (zc.of_below (p := fun _ => False) bW4) (fun _ _ _ h => h)
 have zz3 : w4.heap.size < W4.heap.size := XX.lt
 clear hW4 bW4 K4 Y4 B4 BM4 HD4
 have k20 := XX.cell 0
 have k21 := XX.cell 1
 simp at k20 k21
 go_wp2_with fail
 refine (HIM.out _ _ _ _ _ HD.out.mdF).mono ?_
 rintro e w6 ⟨ow2, au2, cu2, ac2, cc2, p1b, d1b, p2b, d2b, p3b, d3b, p4b, d4b, rfl, G6, lo2, hi2, b6⟩
 have B6 := zb B4' b6
 have K6 := J4.below b6 J4.lt
 have Y6 := Y4'.below b6 Y4'.lt
 have X6 := XX.below b6 XX.lt
 have BM6 : Hid (Below w3.heap.size w3 w6) := zb BMx.out b6
 have HD6 : Hid (MdW ow1 W3.heap.size 1 w6 (some ⟨x5, 0, none⟩) L1 X au1 cu1 ac1 cc1 (some ⟨y5, 0, none⟩) n1 s1) := HD.out.kept (zc.of_below (p := fun _ => False) b6) (fun _ _ _ h => h)
 have HG6 : Hid _ := G6
 have HLo2 : Hid _ := lo2
 have HHi2 : Hid _ := hi2
 have zz4 : W4.heap.size <= w6.heap.size := b6.size
 have HST := zt (A := #[.slice p1b L' d1b, .slice p2b n' d2b, .slice p3b wl d3b, .int .i64 sm, .int .i64 0, .int .i64 tp, .bool false, .int .i64 0, .int .i64 0, .int .i64 0, .int .i64 sr, .slice p4b rl d4b, .bool false, .bool false, .bool false, .int .i64 0, .int .i64 0, .int .i64 0, .int .i64 0, .slice none 0 0]) rfl rfl (by simp [Value.oneCell']) (za.new w6 37 #[.slice none 0 0, .slice none 0 0, .slice none 0 0, .int .i64 0, .int .i64 0, .int .i64 0, .bool false, .int .i64 0, .int .i64 0, .int .i64 0, .int .i64 0, .slice none 0 0, .bool false, .bool false, .bool false, .int .i64 0, .int .i64 0, .int .i64 0, .int .i64 0, .slice none 0 0])
 clear b6 k20 k21 J4 Y4' XX BMx HD G6 lo2 hi2 B4'
 go_upto_region 8 with (refine zi rfl _ _ _ rfl HST ?_)
 obtain ⟨W6, hW6⟩ : ∃ V, V = (w6.alloc (.cells #[.slice none 0 0, .slice none 0 0, .slice none 0 0, .int .i64 0, .int .i64 0, .int .i64 0, .bool false, .int .i64 0, .int .i64 0, .int .i64 0, .int .i64 0, .slice none 0 0, .bool false, .bool false, .bool false, .int .i64 0, .int .i64 0, .int .i64 0, .int .i64 0, .slice none 0 0] 37)).setRow w6.heap.size #[.slice p1b L' d1b, .slice p2b n' d2b, .slice p3b wl d3b, .int .i64 sm, .int .i64 0, .int .i64 tp, .bool false, .int .i64 0, .int .i64 0, .int .i64 0, .int .i64 sr, .slice p4b rl d4b, .bool false, .bool false, .bool false, .int .i64 0, .int .i64 0, .int .i64 0, .int .i64 0, .slice none 0 0] := ⟨_, rfl⟩
 rw [<- hW6]
 have bW6 : Below w6.heap.size w6 W6 := by rw [hW6]; exact zx _ ((Below.refl _ _).alloc (Nat.le_refl _) _) (Nat.le_refl _)
 have XG : za W6 w6.heap.size 37 #[.slice p1b L' d1b, .slice p2b n' d2b, .slice p3b wl d3b, .int .i64 sm, .int .i64 0, .int .i64 tp, .bool false, .int .i64 0, .int .i64 0, .int .i64 0, .int .i64 sr, .slice p4b rl d4b, .bool false, .bool false, .bool false, .int .i64 0, .int .i64 0, .int .i64 0, .int .i64 0, .slice none 0 0] := by rw [hW6]; exact (za.new _ _ _).row _
 have J6 := K6.below bW6 K6.lt
 have Y6' := Y6.below bW6 Y6.lt
 have X6' := X6.below bW6 X6.lt
 have B6' := zb B6 bW6
 have BM7 : Hid (Below w3.heap.size w3 W6) := zb BM6.out bW6
 have HD7 : Hid (MdW ow1 W3.heap.size 1 W6 (some ⟨x5, 0, none⟩) L1 X au1 cu1 ac1 cc1 (some ⟨y5, 0, none⟩) n1 s1) := HD6.out.kept (zc.of_below (p := fun _ => False) bW6) (fun _ _ _ h => h)
 have HG7 : Hid (MwW ow2 W4.heap.size 1 W6 p1b L' X' au2 cu2 ac2 cc2 p2b n' s' p3b wl (fun i => .int .u64 (z i)) p4b rl (fun i => .int .i64 (y i)) none 0 u) := HG6.out.kept (zc.of_below (p := fun _ => False) bW6) (fun _ _ _ h => h)
 have zz5 : w6.heap.size < W6.heap.size := XG.lt
 clear hW6 bW6 K6 Y6 X6 B6 BM6 HD6 HG6 HST
 have HLG := zv rfl XG.cell
 have HLW := zv rfl Y6'.cell
 go_wp2_with (first | refine zk rfl _ _ rfl _ HLG ?_ | refine zk rfl _ _ rfl _ HLW ?_)
 refine (za9 L' n' 0 wl rl z sm 0 tp false 0 0 0 sr false false false 0 0 0 0 X' s' y u p1b p2b p3b p4b none d1b d2b d3b d4b 0 p1a p2a p3a p4a none d1a d2a d3a d4a 0 W6 HG7.out.mcR (HM3.out.below BM7.out) gL gn GX.out gw gr (by omega)).mono ?_
 rintro e w7 ⟨rfl, b7⟩
 have J7 := J6.below b7 J6.lt
 have Y7 := Y6'.below b7 Y6'.lt
 have X7 := X6'.below b7 X6'.lt
 have G7 := XG.below b7 XG.lt
 have B7 := zb B6' b7
 have BM8 : Hid (Below w3.heap.size w3 w7) := zb BM7.out b7
 have HD8 : Hid (MdW ow1 W3.heap.size 1 w7 (some ⟨x5, 0, none⟩) L1 X au1 cu1 ac1 cc1 (some ⟨y5, 0, none⟩) n1 s1) := HD7.out.kept (zc.of_below (p := fun _ => False) b7) (fun _ _ _ h => h)
 have HG8 : Hid (MwW ow2 W4.heap.size 1 w7 p1b L' X' au2 cu2 ac2 cc2 p2b n' s' p3b wl (fun i => .int .u64 (z i)) p4b rl (fun i => .int .i64 (y i)) none 0 u) := HG7.out.kept (zc.of_below (p := fun _ => False) b7) (fun _ _ _ h => h)
 have zz6 : W6.heap.size <= w7.heap.size := b7.size
 clear b7 HLG HLW J6 Y6' X6' XG B6' BM7 HD7 HG7
 go_upto_region 10 with fail
 refine wp_region_held_drew (S := fun V => Below w7.heap.size w7 V) (by kernel_rfl) (Below.refl _ _).drew (fun hHeld => ?_)
 refine tk 0 45 (.agg #[.slice (some ⟨x5, 0, none⟩) L1 L1, .slice (some ⟨y5, 0, none⟩) n1 n1]) hHeld rfl (by intro V hS; have Q := X7.below hS X7.lt; have q0 := Q.cell 0; have q1 := Q.cell 1; simp at q0 q1; go_simp) ?_
 try simp only [Act.put, zig, zih, zii]
 refine tk 1 46 (.agg #[.slice a1 L1 c1, .slice v1 n1 d1]) hHeld rfl (by intro V hS; have Q := J7.below hS J7.lt; have q0 := Q.cell 0; have q1 := Q.cell 1; simp at q0 q1; go_simp) ?_
 try simp only [Act.put, zig, zih, zii]
 refine wpAnyH_ready (rs := [2]) (by kernel_rfl) (by simp) ?_
 refine AllReadyH.cons (o := { dst := some 47, op := _, type := _, pos := _, after := _, guard := _ }) rfl (fun K hK => ?_) AllReadyH.nil
 go_simp
 go_at_call 6
 refine (HT1.out _ (zb B7 hHeld)).mono ?_
 rintro e wi ⟨x6, y6, rfl, si, bi⟩
 have Si := zb hHeld bi
 refine hK.out _ _ Si (fun hHeld' => ?_)
 clear hK K hHeld' hHeld bi
 try simp only [Act.put, zig, zih, zii]
 refine wpAnyH_ready (rs := [3]) (by kernel_rfl) (by simp) ?_
 refine AllReadyH.cons (o := { dst := some 48, op := _, type := _, pos := _, after := _, guard := _ }) rfl (fun K hK => ?_) AllReadyH.nil
 go_simp
 go_at_call 9
 refine (zbm _ _ _ _ _ _ _ _ _ _ X s1 _ _ ((HD8.out.mdF.below Si (Nat.le_refl _)).mono Si.size) si (Nat.le_refl _) l3 l5 HX1.out).mono ?_
 rintro e w8 ⟨rfl, bj⟩
 have Sj := zb Si bj
 refine hK.out _ _ Sj (fun hHeld => ?_)
 clear hK K bj si Si
 try simp only [Act.put, zig, zih, zii]
 refine tk 4 49 (.bool false) hHeld rfl (by intro V hS; go_simp) ?_
 try simp only [Act.put, zig, zih, zii]
 refine wpAnyH_done (by kernel_rfl) ?_ _
 clear hHeld
 have J8 := J7.below Sj J7.lt
 have Y8 := Y7.below Sj Y7.lt
 have X8 := X7.below Sj X7.lt
 have G8 := G7.below Sj G7.lt
 have B8 := zb B7 Sj
 have BM9 : Hid (Below w3.heap.size w3 w8) := zb BM8.out Sj
 have HD9 : Hid (MdW ow1 W3.heap.size 1 w8 (some ⟨x5, 0, none⟩) L1 X au1 cu1 ac1 cc1 (some ⟨y5, 0, none⟩) n1 s1) := HD8.out.kept (zc.of_below (p := fun _ => False) Sj) (fun _ _ _ h => h)
 have HG9 : Hid (MwW ow2 W4.heap.size 1 w8 p1b L' X' au2 cu2 ac2 cc2 p2b n' s' p3b wl (fun i => .int .u64 (z i)) p4b rl (fun i => .int .i64 (y i)) none 0 u) := HG8.out.kept (zc.of_below (p := fun _ => False) Sj) (fun _ _ _ h => h)
 have zz7 : w7.heap.size <= w8.heap.size := Sj.size
 clear Sj J7 Y7 X7 G7 B7 BM8 HD8 HG8
 go_upto_region 13 with fail
 have k20 := X8.cell 0
 have k21 := X8.cell 1
 simp at k20 k21
 go_wp2_with fail
 refine (zbo ow1 W3.heap.size 1 _ L1 L1 X au1 cu1 ac1 cc1 _ n1 n1 s1 1 kt w8 HD9.out (Nat.le_refl _) (fun k hk => HHi1.out k (by omega)) (by omega) HX1.out (by omega) (by omega) HKT.out (by omega)).mono ?_
 rintro e w9 ⟨rfl, -, t9⟩
 have B89 : Below W3.heap.size w8 w9 := t9.low (by omega) (fun k hk h => by have := HLo1.out k hk; rw [this] at h; omega)
 have T9 : zc ow2 (fun t => t = 0) w8 w9 := t9.other (fun k hk h => by have h0 : ow1 k = 0 := (if g : k < W4.heap.size then absurd (HLo2.out k g) hk else HHi1.out k (by omega)); rw [h0] at h; omega)
 have J9 := J8.below B89 (by omega)
 have Y9 := Y8.below B89 (by omega)
 have G9 : za w9 w6.heap.size 37 #[.slice p1b L' d1b, .slice p2b n' d2b, .slice p3b wl d3b, .int .i64 sm, .int .i64 0, .int .i64 tp, .bool false, .int .i64 0, .int .i64 0, .int .i64 0, .int .i64 sr, .slice p4b rl d4b, .bool false, .bool false, .bool false, .int .i64 0, .int .i64 0, .int .i64 0, .int .i64 0, .slice none 0 0] := (t9.block _ G8.lt (fun h => by rw [HHi1.out w6.heap.size (by omega)] at h; omega)).trans G8
 have B9 := B8.trans (B89.mono (by omega))
 have BM10 : Hid (Below w3.heap.size w3 w9) := BM9.out.trans (B89.mono (by omega))
 have HG10 : Hid (MwW ow2 W4.heap.size 1 w9 p1b L' X' au2 cu2 ac2 cc2 p2b n' s' p3b wl (fun i => .int .u64 (z i)) p4b rl (fun i => .int .i64 (y i)) none 0 u) := HG9.out.kept T9 (fun t h1 _ h => by omega)
 have zz8 : w8.heap.size <= w9.heap.size := t9.size
 clear t9 T9 B89 J8 Y8 X8 G8 B8 BM9 HD9 HG9 HHi1 HLo1 k20 k21 HKT
 have nk1 : ¬ (kt : Int) + (n1 : Int) < 0 := by omega
 have HLG := zv rfl G9.cell
 have HLW := zv rfl Y9.cell
 have nk2 : decide ((kt : Int) + (n1 : Int) < 0) = false := by simp; omega
 go_wp2_with (first | refine zba (by first | rfl | (simp only [nk2]; rfl)) _ _ rfl _ HLG ?_ | refine zba (by first | rfl | (simp only [nk2]; rfl)) _ _ rfl _ HLW ?_)
 refine (za9 L' n' 0 wl rl z sm 0 tp false 0 0 0 sr false false false 0 0 0 0 X' s' y u p1b p2b p3b p4b none d1b d2b d3b d4b 0 p1a p2a p3a p4a none d1a d2a d3a d4a 0 w9 HG10.out.mcR (HM3.out.below BM10.out) gL gn GX.out gw gr (by omega)).mono ?_
 rintro e w10 ⟨rfl, b10⟩
 have J10 := J9.below b10 J9.lt
 have Y10 := Y9.below b10 Y9.lt
 have G10 := G9.below b10 G9.lt
 have B10 := zb B9 b10
 have BM11 : Hid (Below w3.heap.size w3 w10) := zb BM10.out b10
 have HG11 : Hid (MwW ow2 W4.heap.size 1 w10 p1b L' X' au2 cu2 ac2 cc2 p2b n' s' p3b wl (fun i => .int .u64 (z i)) p4b rl (fun i => .int .i64 (y i)) none 0 u) := HG10.out.kept (zc.of_below (p := fun _ => False) b10) (fun _ _ _ h => h)
 have zz9 : w9.heap.size <= w10.heap.size := b10.size
 clear b10 HLG HLW J9 Y9 G9 B9 BM10 HG10
 go_upto_region 17 with fail
 have HLG := zv rfl G10.cell
 obtain ⟨N, hN⟩ : ∃ N : Int, N = (km : Int) + (n' : Int) + (wl : Int) + 2 * (rl : Int) + ((0 : Nat) : Int) := ⟨_, rfl⟩
 have n0 : ¬ N < 0 := by omega
 have HN : Hid (N = (km : Int) + (n' : Int) + (wl : Int) + 2 * (rl : Int) + ((0 : Nat) : Int)) := hN
 clear hN
 go_wp2_with (refine zk rfl _ _ rfl _ HLG ?_)
 refine (zc8 ow2 W4.heap.size 1 p1b L' d1b X' au2 cu2 ac2 cc2 p2b n' d2b s' p3b wl d3b sm 0 tp false 0 0 0 sr p4b rl d4b z y false false false 0 0 0 0 none 0 0 u 1 km w10 HG11.out (Nat.le_refl _) (fun k hk => HHi2.out k (by omega)) (by omega) GX.out (by omega) (by omega) (by omega) (by omega) (by omega) HKM.out (by omega)).mono ?_
 rintro e w11 ⟨rfl, Gm, t11⟩
 rw [<- HN.out]
 have HGm : Hid (MwW ow2 W4.heap.size 1 w11 p1b L' (ptX X' ((1 : Nat) : Int) L') au2 cu2 ac2 cc2 p2b n' (fun i => mtx (km + i)) p3b wl (mkW ((km + n' : Nat) : Int)) p4b rl (mkI (((km + n' : Nat) : Int) + wl)) none 0 (fun i => mtx (km + n' + wl + 2 * rl + i))) := Gm
 have B1011 : Below W4.heap.size w10 w11 := t11.low (by omega) (fun k hk h => by rw [HLo2.out k hk] at h; omega)
 have J11 := J10.below B1011 (by omega)
 have Y11 := Y10.below B1011 (by omega)
 have G11 : za w11 w6.heap.size 37 #[.slice p1b L' d1b, .slice p2b n' d2b, .slice p3b wl d3b, .int .i64 sm, .int .i64 0, .int .i64 tp, .bool false, .int .i64 0, .int .i64 0, .int .i64 0, .int .i64 sr, .slice p4b rl d4b, .bool false, .bool false, .bool false, .int .i64 0, .int .i64 0, .int .i64 0, .int .i64 0, .slice none 0 0] := (t11.block _ G10.lt (fun h => by rw [HHi2.out w6.heap.size (Nat.le_refl _)] at h; omega)).trans G10
 have B11 := B10.trans (B1011.mono (by omega))
 have BM12 : Hid (Below w3.heap.size w3 w11) := BM11.out.trans (B1011.mono (by omega))
 have zz10 : w10.heap.size <= w11.heap.size := t11.size
 clear Gm t11 B1011 J10 Y10 G10 B10 BM11 HG11 HLG nk1 nk2
 have HLG := zv rfl G11.cell
 go_wp2_with (refine zk rfl _ _ rfl _ HLG ?_)
 refine (zbe ow2 W4.heap.size 1 p1b L' d1b X' au2 cu2 ac2 cc2 p2b n' d2b p3b wl d3b sm 0 tp false 0 0 0 sr p4b rl d4b false false false 0 0 0 0 none 0 0 1 km w11 HGm.out (by omega) GX.out (by omega) (by omega) (by omega) (by omega) (by omega) HKM.out (by omega)).mono ?_
 rintro e w12 ⟨rfl, b12⟩
 rw [<- HN.out]
 have J12 := J11.below b12 J11.lt
 have Y12 := Y11.below b12 Y11.lt
 have G12 := G11.below b12 G11.lt
 have B12 := zb B11 b12
 have BM13 : Hid (Below w3.heap.size w3 w12) := zb BM12.out b12
 have HG12 : Hid (MwW ow2 W4.heap.size 1 w12 p1b L' (ptX X' ((1 : Nat) : Int) L') au2 cu2 ac2 cc2 p2b n' (fun i => mtx (km + i)) p3b wl (mkW ((km + n' : Nat) : Int)) p4b rl (mkI (((km + n' : Nat) : Int) + wl)) none 0 (fun i => mtx (km + n' + wl + 2 * rl + i))) := HGm.out.kept (zc.of_below (p := fun _ => False) b12) (fun _ _ _ h => h)
 clear b12 J11 Y11 G11 B11 BM12 HGm HLG
 have k20 := J12.cell 0
 have k21 := J12.cell 1
 simp at k20 k21
 go_wp2_with fail
 refine (HT1.out _ B12).mono ?_
 rintro e w13 ⟨x7, y7, rfl, s13, b13⟩
 have J13 := J12.below b13 J12.lt
 have Y13 := Y12.below b13 Y12.lt
 have G13 := G12.below b13 G12.lt
 have B13 := zb B12 b13
 have BM14 : Hid (Below w3.heap.size w3 w13) := zb BM13.out b13
 have HG13 : Hid (MwW ow2 W4.heap.size 1 w13 p1b L' (ptX X' ((1 : Nat) : Int) L') au2 cu2 ac2 cc2 p2b n' (fun i => mtx (km + i)) p3b wl (mkW ((km + n' : Nat) : Int)) p4b rl (mkI (((km + n' : Nat) : Int) + wl)) none 0 (fun i => mtx (km + n' + wl + 2 * rl + i))) := HG12.out.kept (zc.of_below (p := fun _ => False) b13) (fun _ _ _ h => h)
 clear b13 J12 Y12 G12 B12 BM13 HG12 k20 k21
 go_wp2_with fail
 refine (HIM.out _ _ _ _ _ s13).mono ?_
 rintro e w14 ⟨ow3, au3, cu3, ac3, cc3, p1c, d1c, p2c, d2c, p3c, d3c, p4c, d4c, rfl, G14, -, -, b14⟩
 have Y14 := Y13.below b14 Y13.lt
 have G14b := G13.below b14 G13.lt
 have B14 := zb B13 b14
 have BM15 : Hid (Below w3.heap.size w3 w14) := zb BM14.out b14
 have HG14 : Hid (MwW ow2 W4.heap.size 1 w14 p1b L' (ptX X' ((1 : Nat) : Int) L') au2 cu2 ac2 cc2 p2b n' (fun i => mtx (km + i)) p3b wl (mkW ((km + n' : Nat) : Int)) p4b rl (mkI (((km + n' : Nat) : Int) + wl)) none 0 (fun i => mtx (km + n' + wl + 2 * rl + i))) := HG13.out.kept (zc.of_below (p := fun _ => False) b14) (fun _ _ _ h => h)
 have HH14 : Hid (McR w14 (.slice p1c L' d1c) (.slice p2c n' d2c) (.slice p3c wl d3c) (.slice p4c rl d4c) (.slice none 0 0) L' X' n' s' wl z rl y 0 u) := G14.mcR
 have HST := zt (A := #[.slice p1c L' d1c, .slice p2c n' d2c, .slice p3c wl d3c, .int .i64 sm, .int .i64 0, .int .i64 tp, .bool false, .int .i64 0, .int .i64 0, .int .i64 0, .int .i64 sr, .slice p4c rl d4c, .bool false, .bool false, .bool false, .int .i64 0, .int .i64 0, .int .i64 0, .int .i64 0, .slice none 0 0]) rfl rfl (by simp [Value.oneCell']) (za.new w14 37 #[.slice none 0 0, .slice none 0 0, .slice none 0 0, .int .i64 0, .int .i64 0, .int .i64 0, .bool false, .int .i64 0, .int .i64 0, .int .i64 0, .int .i64 0, .slice none 0 0, .bool false, .bool false, .bool false, .int .i64 0, .int .i64 0, .int .i64 0, .int .i64 0, .slice none 0 0])
 clear b14 J13 Y13 G13 B13 BM14 HG13 G14 s13
 go_upto_region 25 with (refine zi rfl _ _ _ rfl HST ?_)
 obtain ⟨W14, hW14⟩ : ∃ V, V = (w14.alloc (.cells #[.slice none 0 0, .slice none 0 0, .slice none 0 0, .int .i64 0, .int .i64 0, .int .i64 0, .bool false, .int .i64 0, .int .i64 0, .int .i64 0, .int .i64 0, .slice none 0 0, .bool false, .bool false, .bool false, .int .i64 0, .int .i64 0, .int .i64 0, .int .i64 0, .slice none 0 0] 37)).setRow w14.heap.size #[.slice p1c L' d1c, .slice p2c n' d2c, .slice p3c wl d3c, .int .i64 sm, .int .i64 0, .int .i64 tp, .bool false, .int .i64 0, .int .i64 0, .int .i64 0, .int .i64 sr, .slice p4c rl d4c, .bool false, .bool false, .bool false, .int .i64 0, .int .i64 0, .int .i64 0, .int .i64 0, .slice none 0 0] := ⟨_, rfl⟩
 rw [<- hW14]
 have bW14 : Below w14.heap.size w14 W14 := by rw [hW14]; exact zx _ ((Below.refl _ _).alloc (Nat.le_refl _) _) (Nat.le_refl _)
 have XH : za W14 w14.heap.size 37 #[.slice p1c L' d1c, .slice p2c n' d2c, .slice p3c wl d3c, .int .i64 sm, .int .i64 0, .int .i64 tp, .bool false, .int .i64 0, .int .i64 0, .int .i64 0, .int .i64 sr, .slice p4c rl d4c, .bool false, .bool false, .bool false, .int .i64 0, .int .i64 0, .int .i64 0, .int .i64 0, .slice none 0 0] := by rw [hW14]; exact (za.new _ _ _).row _
 have Y15 := Y14.below bW14 Y14.lt
 have G15 := G14b.below bW14 G14b.lt
 have B15 := zb B14 bW14
 have BM16 : Hid (Below w3.heap.size w3 W14) := zb BM15.out bW14
 have HG15 : Hid (MwW ow2 W4.heap.size 1 W14 p1b L' (ptX X' ((1 : Nat) : Int) L') au2 cu2 ac2 cc2 p2b n' (fun i => mtx (km + i)) p3b wl (mkW ((km + n' : Nat) : Int)) p4b rl (mkI (((km + n' : Nat) : Int) + wl)) none 0 (fun i => mtx (km + n' + wl + 2 * rl + i))) := HG14.out.kept (zc.of_below (p := fun _ => False) bW14) (fun _ _ _ h => h)
 have HH15 : Hid _ := HH14.out.below bW14
 clear hW14 bW14 Y14 G14b B14 BM15 HG14 HH14 HST
 have HLH := zv rfl XH.cell
 have HLW := zv rfl Y15.cell
 go_wp2_with (first | refine zk rfl _ _ rfl _ HLH ?_ | refine zk rfl _ _ rfl _ HLW ?_)
 refine (za9 L' n' 0 wl rl z sm 0 tp false 0 0 0 sr false false false 0 0 0 0 X' s' y u p1c p2c p3c p4c none d1c d2c d3c d4c 0 p1a p2a p3a p4a none d1a d2a d3a d4a 0 W14 HH15.out (HM3.out.below BM16.out) gL gn GX.out gw gr (by omega)).mono ?_
 rintro e w16 ⟨rfl, b16⟩
 have G16 := G15.below b16 G15.lt
 have B16 := zb B15 b16
 have HG16 : Hid (MwW ow2 W4.heap.size 1 w16 p1b L' (ptX X' ((1 : Nat) : Int) L') au2 cu2 ac2 cc2 p2b n' (fun i => mtx (km + i)) p3b wl (mkW ((km + n' : Nat) : Int)) p4b rl (mkI (((km + n' : Nat) : Int) + wl)) none 0 (fun i => mtx (km + n' + wl + 2 * rl + i))) := HG15.out.kept (zc.of_below (p := fun _ => False) b16) (fun _ _ _ h => h)
 clear b16 HLH HLW Y15 G15 B15 BM16 HG15 HH15 XH
 go_upto_region 28 with fail
 have HLG := zv rfl G16.cell
 go_wp2_with (refine zk rfl _ _ rfl _ HLG ?_)
 refine (zbe ow2 W4.heap.size 1 p1b L' d1b X' au2 cu2 ac2 cc2 p2b n' d2b p3b wl d3b sm 0 tp false 0 0 0 sr p4b rl d4b false false false 0 0 0 0 none 0 0 1 km w16 HG16.out (by omega) GX.out (by omega) (by omega) (by omega) (by omega) (by omega) HKM.out (by omega)).mono ?_
 rintro e w17 ⟨rfl, b17⟩
 rw [<- HN.out]
 clear HLG
 have B17 := zb B16 b17
 clear b17 G16 B16 HG16
 go_wp2
 go_ret
 exact ⟨rfl, B17⟩
end Go.Proofs.YtblcfbhlmdhnpaaGreat
