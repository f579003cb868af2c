/- - -/
import Derived.Test.YtiglkhkfbgjjoaaGreatDoorPDrwE
import Derived.Laws.NewBlocks
namespace Go.Proofs.YtiglkhkfbgjjoaaGreatDoor
set_option maxRecDepth 20000
open Go.RowKit
set_option linter.unusedSimpArgs false
set_option linter.unusedVariables false
theorem But.twoE {cb eb : Nat} {w w' : World} (h : But eb w w') : zz cb eb w w' := ⟨h.os, h.tape, h.output, h.size, fun k hk _ h2 => h.block k hk h2⟩
theorem Cur.butE {w w' : World} {cb eb : Nat} {v : Value} (h : Cur w cb v) (hb : But eb w w') (hce : cb < eb) : Cur w' cb v :=
 h.keep fun k hk => hb.block k (by have := h.lt; omega) (by omega)
theorem Cur.setE {w : World} {cb eb i : Nat} {v u : Value} (h : Cur w cb v) (hce : cb < eb) : Cur (w.setCell ⟨eb, i, none⟩ u) cb v :=
 h.butE ((But.refl eb w).setCell rfl u) hce
def zc2 (F b N : Nat) (d : Int) : Prop := ∀ (cb eb n : Nat) (v : Value) (x : Int) (back : Bool) (w : World), Cur w cb v -> zf w cb eb n -> cb < eb -> n <= N -> -90 <= x -> x <= d ->
 Calls Tryz.prog F #[.pointer (some ⟨cb, 0, none⟩), .pointer (some ⟨eb, 0, none⟩), .int .i64 x, .bool back] w fun e w' => ∃ s : ByteArray, e = .returned (.string s) /\ s.size <= b /\ Cur w' cb v /\ zf w' cb eb n /\ zz cb eb w w'
def ze2 (F b N : Nat) (d : Int) : Prop := ∀ (cb eb n : Nat) (v : Value) (x : Int) (w : World), Cur w cb v -> zf w cb eb n -> cb < eb -> n <= N -> -80 <= x -> x <= d ->
 Calls Tryz.prog F #[.pointer (some ⟨cb, 0, none⟩), .pointer (some ⟨eb, 0, none⟩), .int .i64 x] w fun e w' => ∃ s : ByteArray, e = .returned (.string s) /\ s.size <= b /\ Cur w' cb v /\ zf w' cb eb n /\ zz cb eb w w'
set_option maxHeartbeats 4000000 in
theorem zfu (b N : Nat) (d : Int) (hb : b <= 5000000000) (hN : N < 1000) (hd : d <= 10) (HB : Hid (zc2 93 b (N + 1) d)) : ze2 52 (b + 20) N (d + 1) := by
 intro cb eb n v x w C0 E0 hce hn hx0 hx1
 obtain ⟨vn, vk, ct, lf, fn, co, E⟩ := E0
 have hne : eb ≠ cb := by omega
 have hcl := C0.lt
 have hel := E.lt
 obtain ⟨an, cn, rfl⟩ : ∃ a c, vn = .slice a n c := (by obtain ⟨a, c, h, _⟩ := E.hn; exact ⟨a, c, h⟩)
 obtain ⟨ak, ck, rfl⟩ : ∃ a c, vk = .slice a n c := (by obtain ⟨a, c, h, _⟩ := E.hk; exact ⟨a, c, h⟩)
 have d0 : w.cell? ⟨eb, 0, none⟩ = some (.slice an n cn) := E.c 0
 have d1 : w.cell? ⟨eb, 1, none⟩ = some (.slice ak n ck) := E.c 1
 have d4 : w.cell? ⟨eb, 4, none⟩ = some (.bool fn) := E.c 4
 have HE : Hid (Env w cb eb n n (.slice an n cn) (.slice ak n ck) ct lf fn co) := E
 have HC : Hid (Cur w cb v) := C0
 clear E C0
 go_enter Tryz.func52, Tryz.ntmps52
 go_wp2_with fail
 go_region
 clear d0 d1 d4 hcl hel
 obtain ⟨w9, hw9⟩ : ∃ V, V = w.drew := ⟨_, rfl⟩
 rw [<- hw9]
 have B0 : But cb w w9 := by rw [hw9]; exact (But.refl cb w).drewN 1
 have E := HE.out.but B0 hne
 have C0 : Cur w9 cb v := by rw [hw9]; exact HC.out.below (Below.refl _ _).drew
 have F0 : zz cb eb w w9 := B0.two
 clear hw9 HE HC B0
 have d4 : w9.cell? ⟨eb, 4, none⟩ = some (.bool fn) := E.c 4
 have f4 := E.f 4
 have hel := E.lt
 have Sn := E.hn
 have Sk := E.hk
 have E1 : Hid (zf (w9.setCell ⟨eb, 4, none⟩ (.bool true)) cb eb n) := ⟨_, _, _, _, _, _, E.put (i := 4) (by omega) rfl E.hn E.hk⟩
 have C1 : Hid (Cur (w9.setCell ⟨eb, 4, none⟩ (.bool true)) cb v) := C0.setE hce
 have F1 : Hid (zz cb eb w9 (w9.setCell ⟨eb, 4, none⟩ (.bool true))) := (zz.refl cb eb w9).set 4 _
 clear E C0
 go_wp2_with (first | (go_at_call 87; refine (zjc cb eb n v _ _ C1.out E1.out hce (by omega)).mono ?_; rintro e w1 ⟨p, rfl, hp, E2, B1⟩; have hp2 : (p.size : Int) = 3 := (by omega); have C2 := C1.out.butE B1 hce; have F2 := F1.out.trans B1.twoE; clear B1) | (go_at_call 93; refine (HB.out cb eb _ v _ true _ C2 E2 hce (by omega) (by omega) (by omega)).mono ?_; rintro e w2 ⟨s, rfl, hs, C3, E3, B2⟩; have hs2 : (s.size : Int) <= 5000000000 := (by omega); have F3 := F2.trans B2; clear B2; obtain ⟨un, uk, ct2, lf2, fn2, co2, E4⟩ := E3; have g0 := E4.c 0; have g1 := E4.c 1; have g4 := E4.c 4; have k0 := E4.f 0; have k1 := E4.f 1; have k4 := E4.f 4; have l4 := E4.lt; simp at g0 g1 g4))
 have E5 := E4.put (i := 0) (u := .slice an n cn) (by omega) rfl (Sn.but F3) E4.hk
 have E6 := E5.put (i := 1) (u := .slice ak n ck) (by omega) rfl E5.hn (Sk.but (F3.set 0 _))
 have E7 := E6.put (i := 4) (u := .bool fn) (by omega) rfl E6.hn E6.hk
 go_ret
 exact ⟨_, rfl, by simp [ByteArray.size_append, bsz]; omega, ((C3.setE hce).setE hce).setE hce, ⟨_, _, _, _, _, _, E7⟩, F0.trans (((F3.set 0 _).set 1 _).set 4 _)⟩
def zcy (F b N k : Nat) (d : Int) : Prop := ∀ (cb eb n : Nat) (v : Value) (x : Int) (w : World), Cur w cb v -> zf w cb eb n -> cb < eb -> n <= N -> -90 <= x -> x <= d ->
 Calls Tryz.prog F #[.pointer (some ⟨cb, 0, none⟩), .pointer (some ⟨eb, 0, none⟩), .int .i64 x] w fun e w' => ∃ (s : ByteArray) (n' : Nat), e = .returned (.string s) /\ s.size <= b /\ n' <= n + k /\ Cur w' cb v /\ zf w' cb eb n' /\ zz cb eb w w'
set_option maxHeartbeats 4000000 in
theorem zed (b N k : Nat) (d : Int) (hb : b <= 1000000000) (hN : N + 2 * k <= 1000) (hd : d <= 10) (HL : Hid (zcy 51 b (N + k) k d)) (HNum : Hid (zaq 53 200000 3)) : zc2 93 (2 * b + 500000) N d := by
 intro cb eb n v x back w C0 E0 hce hn hx0 hx1
 obtain ⟨vn, vk, ct, lf, fn, co, E⟩ := E0
 have hne : eb ≠ cb := by omega
 have hcl := C0.lt
 have hel := E.lt
 obtain ⟨an, cn, rfl⟩ : ∃ a c, vn = .slice a n c := (by obtain ⟨a, c, h, _⟩ := E.hn; exact ⟨a, c, h⟩)
 obtain ⟨ak, ck, rfl⟩ : ∃ a c, vk = .slice a n c := (by obtain ⟨a, c, h, _⟩ := E.hk; exact ⟨a, c, h⟩)
 have d0 : w.cell? ⟨eb, 0, none⟩ = some (.slice an n cn) := E.c 0
 have d1 : w.cell? ⟨eb, 1, none⟩ = some (.slice ak n ck) := E.c 1
 have HE : Hid (Env w cb eb n n (.slice an n cn) (.slice ak n ck) ct lf fn co) := E
 have HC : Hid (Cur w cb v) := C0
 clear E C0
 go_enter Tryz.func93, Tryz.ntmps93
 go_wp2_with fail
 go_region
 clear d0 d1 hcl hel
 obtain ⟨w9, hw9⟩ : ∃ V, V = w.drew := ⟨_, rfl⟩
 rw [<- hw9]
 have B0 : But cb w w9 := by rw [hw9]; exact (But.refl cb w).drewN 1
 have E := HE.out.but B0 hne
 have C0 : Cur w9 cb v := by rw [hw9]; exact HC.out.below (Below.refl _ _).drew
 have F0 : zz cb eb w w9 := B0.two
 clear hw9 HE HC B0
 go_wp2_with (first | (go_at_call 49; refine (zal cb v _ _ C0 (by omega) (by omega)).mono ?_; rintro e w0 ⟨y, rfl, ⟨hy0, hy1⟩, C1, B0⟩))
 have E1 := E.but B0 hne
 have F1 := F0.trans B0.two
 obtain ⟨y, rfl⟩ := Int.eq_ofNat_of_zero_le hy0
 have Sn : Hid (zp w0 cb eb (.slice an n cn) n 3) := E1.hn
 have Sk : Hid (zdr w0 cb eb (.slice ak n ck) n) := E1.hk
 have H0 : Hid (Cur w0 cb v /\ zf w0 cb eb n /\ zz cb eb w w0) := ⟨C1, ⟨_, _, _, _, _, _, E1⟩, F1⟩
 clear C0 E F0 C1 E1 F1 B0
 go_loopw [11, 13] (fun o q wr => ∃ (j m : Nat) (s : ByteArray), j <= 1 + y /\ q = .int .i64 j /\ o = .string s /\ s.size <= 2 + j * b /\ m <= n + j * k /\ Cur wr cb v /\ zf wr cb eb m /\ zz cb eb w0 wr) (fun _ q _ => 1 + y - (intOf q).toNat)
 case atStart => exact ⟨0, n, _, Nat.zero_le _, rfl, rfl, by simp [bsz], by omega, H0.out.1, H0.out.2.1, zz.refl _ _ _⟩
 case round =>
  obtain ⟨j, m, o, hj, rfl, rfl, ho, hm, C1, E1, F1⟩ := hrel
  have hcl := C1.lt
  have hj2 : j <= 2 := by omega
  have hjb : j * b <= 2 * b := Nat.mul_le_mul_right _ hj2
  have hjk : j * k <= 2 * k := Nat.mul_le_mul_right _ hj2
  have ho2 : (o.size : Int) <= 3000000000 := by omega
  have hsb : (j + 1) * b = j * b + b := Nat.succ_mul _ _
  have hsk : (j + 1) * k = j * k + k := Nat.succ_mul _ _
  by_cases hlt : j < 1 + y
  · have hlt' : (j : Int) < 1 + y := by omega
    have hj1 : j <= 1 := by omega
    have hjk : j * k <= 1 * k := Nat.mul_le_mul_right _ hj1
    go_wp2_with (first | (go_at_call 51; refine (HL.out cb eb m v _ _ C1 E1 hce (by omega) (by omega) (by omega)).mono ?_; rintro e w2 ⟨s, m2, rfl, hs, hm2, C2, E2, B2⟩; have hs2 : (s.size : Int) <= 1000000000 := (by omega)))
    refine ⟨⟨j + 1, m2, _, by omega, by go_num, rfl, ?_, by rw [hsk]; omega, C2, E2, F1.trans B2⟩, by simp [intOf]; omega⟩
    rw [hsb]
    simp [ByteArray.size_append, bsz] <;> omega
  · have hlt' : ¬ (j : Int) < 1 + y := by omega
    obtain ⟨un, uk, ct2, lf2, fn2, co2, E4⟩ := E1
    have hel := E4.lt
    have g5 : _ = some (Value.bool co2) := E4.c 5
    have g0 : _ = some un := E4.c 0
    have g1 : _ = some uk := E4.c 1
    have k0 := E4.f 0
    have k1 := E4.f 1
    go_wp2_with (first | (go_at_call 23; refine (zci cb v _ _ C1 (by omega) (by omega)).mono ?_; rintro e w3 ⟨q, rfl, C3, B3⟩; replace E4 := E4.but B3 hne; replace F1 := F1.trans B3.two; replace C1 := C3; clear B3 C3) | (go_at_call 53; refine (HNum.out cb eb m v _ _ C1 ⟨_, _, _, _, _, _, E4⟩ hne (by omega) (by omega) (by omega)).mono ?_; rintro e w3 ⟨s, rfl, hs, C3, B3⟩; have hs2 : (s.size : Int) <= 200000 := (by omega); replace E4 := E4.but B3 hne; replace F1 := F1.trans B3.two; replace C1 := C3; clear B3 C3; have hel := E4.lt; have g0 : _ = some un := E4.c 0; have g1 : _ = some uk := E4.c 1; have k0 := E4.f 0; have k1 := E4.f 1))
    all_goals
     (try simp only [Exit.inBlock, Exit.then])
     have E5 := E4.put (i := 0) (u := .slice an n cn) (by omega) rfl (Sn.out.but F1) E4.hk
     have E6 := E5.put (i := 1) (u := .slice ak n ck) (by omega) rfl E5.hn (Sk.out.but (F1.set 0 _))
     go_ret
     exact ⟨_, rfl, by first | omega | (simp [ByteArray.size_append, bsz] <;> omega), (C1.setE hce).setE hce, ⟨_, _, _, _, _, _, E6⟩, H0.out.2.2.trans ((F1.set 0 _).set 1 _)⟩
theorem zz.alloc {cb eb : Nat} {a w : World} (h : zz cb eb a w) (o : Obj) : zz cb eb a (w.alloc o) := h.trans (But.two ((But.refl cb w).alloc o))
set_option maxHeartbeats 8000000 in
theorem zd5 (b N k : Nat) (d d' : Int) (hb : b <= 1000000000) (hN : N <= 900) (hk : k <= 20) (hd : d' <= 10) (hdd : d' <= 0 \/ d' <= d + 1) (HLi : Hid (zcy 51 b (N + 1) k d)) (HB : Hid (zc2 93 b N d)) (HLa : Hid (ze2 52 b N d))
 (HX : Hid (zes 200000 3)) (HT : Hid (zaq 89 200000 3 (-50))) : zcy 51 (2 * b + 900000) N (k + 1) d' := by
 intro cb eb n v x w C0 E0 hce hn hx0 hx1
 obtain ⟨vn, vk, ct, lf, fn, co, E⟩ := E0
 have hne : eb ≠ cb := by omega
 have hel := E.lt
 have d3 : w.cell? ⟨eb, 3, none⟩ = some (.int .i64 lf) := E.c 3
 have f3 := E.f 3
 have HE : Hid (Env w cb eb n n vn vk ct lf fn co) := E
 have HC : Hid (Cur w cb v) := C0
 clear E C0
 go_enter Tryz.func51, Tryz.ntmps51
 go_upto_region 2 with fail
 obtain ⟨w1, hw1⟩ : ∃ V, V = w.setCell ⟨eb, 3, none⟩ (.int .i64 (wrap64 (lf - 1))) := ⟨_, rfl⟩
 rw [<- hw1]
 have E : Env w1 cb eb n n vn vk ct (wrap64 (lf - 1)) fn co := by rw [hw1]; exact HE.out.put (i := 3) (by omega) rfl HE.out.hn HE.out.hk
 have C0 : Cur w1 cb v := by rw [hw1]; exact HC.out.setE hce
 have F0 : zz cb eb w w1 := by rw [hw1]; exact (zz.refl cb eb w).set 3 _
 clear hw1 HE HC d3 f3 hel
 generalize wrap64 (lf - 1) = l1 at *
 have hel := E.lt
 have d3 : w1.cell? ⟨eb, 3, none⟩ = some (.int .i64 l1) := E.c 3
 have E0 : zf w1 cb eb n := ⟨_, _, _, _, _, _, E⟩
 have hcl := C0.lt
 clear E
 go_wp2_with (first | (go_at_call 23; refine (zci cb v _ _ (by first | assumption | exact Cur.below (by assumption) ((Below.refl _ _).alloc (Nat.le_refl _) _)) (by omega) (by omega)).mono ?_; rintro e w0 ⟨q, rfl, C0, B0⟩; have E0 := zf.but (by first | assumption | exact zf.but (by assumption) ((But.refl _ _).alloc _) hne) B0 hne; have F0 := zz.trans (by first | assumption | exact zz.alloc (by assumption) _) B0.two; (try have S0 := zp.but (eb := eb) (by assumption) (But.two B0)); have hcl := C0.lt; clear B0) | (go_at_call 49; refine (zal cb v _ _ (by first | assumption | exact Cur.below (by assumption) ((Below.refl _ _).alloc (Nat.le_refl _) _)) (by omega) (by omega)).mono ?_; rintro e w0 ⟨y, rfl, ⟨hy0, hy1⟩, C0, B0⟩; have E0 := zf.but (by first | assumption | exact zf.but (by assumption) ((But.refl _ _).alloc _) hne) B0 hne; have F0 := zz.trans (by first | assumption | exact zz.alloc (by assumption) _) B0.two; (try have S0 := zp.but (eb := eb) (by assumption) (But.two B0)); have hcl := C0.lt; clear B0) | (go_at_call 90; refine (zeu cb eb n _ _ (by first | assumption | exact zf.but (by assumption) ((But.refl _ _).alloc _) hne) (Cur.lt (by first | assumption | exact Cur.below (by assumption) ((Below.refl _ _).alloc (Nat.le_refl _) _))) (by omega)).mono ?_; rintro e w0 ⟨la, lc, lk, rfl, hlk, S0, b0⟩; have C0 := Cur.below (by first | assumption | exact Cur.below (by assumption) ((Below.refl _ _).alloc (Nat.le_refl _) _)) b0; have B0 := But.ofBelow (b := cb) b0; clear b0; have E0 := zf.but (by first | assumption | exact zf.but (by assumption) ((But.refl _ _).alloc _) hne) B0 hne; have F0 := zz.trans (by first | assumption | exact zz.alloc (by assumption) _) B0.two; have hcl := C0.lt; clear B0) | (go_at_call 50; refine (za6 cb eb v _ _ 20 _ (by first | assumption | exact Cur.below (by assumption) ((Below.refl _ _).alloc (Nat.le_refl _) _)) (by first | exact zau (by rfl) (Cur.lt (v := v) (by assumption)) (zf.lt (n := n) (by assumption)) (by rfl) | exact zau (by rfl) (Cur.lt (v := v) (by assumption)) (zf.lt (n := n + 1) (by assumption)) (by rfl) | exact zp.mono (by assumption) (by omega)) (by omega) (by omega)).mono ?_; rintro e w0 ⟨s, rfl, hs, C0, B0⟩; have hs2 : (s.size : Int) <= 20 := (by omega); have E0 := zf.but (by first | assumption | exact zf.but (by assumption) ((But.refl _ _).alloc _) hne) B0 hne; have F0 := zz.trans (by first | assumption | exact zz.alloc (by assumption) _) B0.two; (try have S0 := zp.but (eb := eb) (by assumption) (But.two B0)); have hcl := C0.lt; clear B0) | (go_at_call 50; refine (za6 cb eb v _ _ 200000 _ (by first | assumption | exact Cur.below (by assumption) ((Below.refl _ _).alloc (Nat.le_refl _) _)) (by exact zau (by simp [txB, bsz]; omega) (Cur.lt (v := v) (by assumption)) (zf.lt (n := n) (by assumption)) (by rfl)) (by omega) (by omega)).mono ?_; rintro e w0 ⟨s, rfl, hs, C0, B0⟩; have hs2 : (s.size : Int) <= 200000 := (by omega); have E0 := zf.but (by first | assumption | exact zf.but (by assumption) ((But.refl _ _).alloc _) hne) B0 hne; have F0 := zz.trans (by first | assumption | exact zz.alloc (by assumption) _) B0.two; (try have S0 := zp.but (eb := eb) (by assumption) (But.two B0)); have hcl := C0.lt; clear B0) | (go_at_call 53; refine (HX.out.num cb eb n v _ _ (by first | assumption | exact Cur.below (by assumption) ((Below.refl _ _).alloc (Nat.le_refl _) _)) (by first | assumption | exact zf.but (by assumption) ((But.refl _ _).alloc _) hne) hne (by omega) (by omega) (by omega)).mono ?_; rintro e w0 ⟨s, rfl, hs, C0, B0⟩; have hs2 : (s.size : Int) <= 200000 := (by omega); have E0 := zf.but (by first | assumption | exact zf.but (by assumption) ((But.refl _ _).alloc _) hne) B0 hne; have F0 := zz.trans (by first | assumption | exact zz.alloc (by assumption) _) B0.two; (try have S0 := zp.but (eb := eb) (by assumption) (But.two B0)); have hcl := C0.lt; clear B0) | (go_at_call 88; refine (HX.out.str cb eb n v _ _ (by first | assumption | exact Cur.below (by assumption) ((Below.refl _ _).alloc (Nat.le_refl _) _)) (by first | assumption | exact zf.but (by assumption) ((But.refl _ _).alloc _) hne) hne (by omega) (by omega) (by omega)).mono ?_; rintro e w0 ⟨s, rfl, hs, C0, B0⟩; have hs2 : (s.size : Int) <= 200000 := (by omega); have E0 := zf.but (by first | assumption | exact zf.but (by assumption) ((But.refl _ _).alloc _) hne) B0 hne; have F0 := zz.trans (by first | assumption | exact zz.alloc (by assumption) _) B0.two; (try have S0 := zp.but (eb := eb) (by assumption) (But.two B0)); have hcl := C0.lt; clear B0) | (go_at_call 92; refine (HX.out.bool cb eb n v _ _ (by first | assumption | exact Cur.below (by assumption) ((Below.refl _ _).alloc (Nat.le_refl _) _)) (by first | assumption | exact zf.but (by assumption) ((But.refl _ _).alloc _) hne) hne (by omega) (by omega) (by omega)).mono ?_; rintro e w0 ⟨s, rfl, hs, C0, B0⟩; have hs2 : (s.size : Int) <= 200000 := (by omega); have E0 := zf.but (by first | assumption | exact zf.but (by assumption) ((But.refl _ _).alloc _) hne) B0 hne; have F0 := zz.trans (by first | assumption | exact zz.alloc (by assumption) _) B0.two; (try have S0 := zp.but (eb := eb) (by assumption) (But.two B0)); have hcl := C0.lt; clear B0) | (go_at_call 91; refine (HX.out.any cb eb n v _ _ (by first | assumption | exact Cur.below (by assumption) ((Below.refl _ _).alloc (Nat.le_refl _) _)) (by first | assumption | exact zf.but (by assumption) ((But.refl _ _).alloc _) hne) hne (by omega) (by omega) (by omega)).mono ?_; rintro e w0 ⟨s, rfl, hs, C0, B0⟩; have hs2 : (s.size : Int) <= 200000 := (by omega); have E0 := zf.but (by first | assumption | exact zf.but (by assumption) ((But.refl _ _).alloc _) hne) B0 hne; have F0 := zz.trans (by first | assumption | exact zz.alloc (by assumption) _) B0.two; (try have S0 := zp.but (eb := eb) (by assumption) (But.two B0)); have hcl := C0.lt; clear B0) | (go_at_call 89; refine (HT.out cb eb n v _ _ (by first | assumption | exact Cur.below (by assumption) ((Below.refl _ _).alloc (Nat.le_refl _) _)) (by first | assumption | exact zf.but (by assumption) ((But.refl _ _).alloc _) hne) hne (by omega) (by omega) (by omega)).mono ?_; rintro e w0 ⟨s, rfl, hs, C0, B0⟩; have hs2 : (s.size : Int) <= 200000 := (by omega); have E0 := zf.but (by first | assumption | exact zf.but (by assumption) ((But.refl _ _).alloc _) hne) B0 hne; have F0 := zz.trans (by first | assumption | exact zz.alloc (by assumption) _) B0.two; (try have S0 := zp.but (eb := eb) (by assumption) (But.two B0)); have hcl := C0.lt; clear B0) | (go_at_call 87; refine (zjc cb eb n v _ _ (by first | assumption | exact Cur.below (by assumption) ((Below.refl _ _).alloc (Nat.le_refl _) _)) (by first | assumption | exact zf.but (by assumption) ((But.refl _ _).alloc _) hne) hce (by omega)).mono ?_; rintro e w0 ⟨s, rfl, hs, E0, B0⟩; have hs2 : (s.size : Int) = 3 := (by omega); have C0 := Cur.butE (by first | assumption | exact Cur.below (by assumption) ((Below.refl _ _).alloc (Nat.le_refl _) _)) B0 hce; have F0 := zz.trans (by first | assumption | exact zz.alloc (by assumption) _) B0.twoE; have hcl := C0.lt; clear B0) | (go_at_call 52; refine (HLa.out cb eb (n) v _ _ (by first | assumption | exact Cur.below (by assumption) ((Below.refl _ _).alloc (Nat.le_refl _) _)) (by first | assumption | exact zf.but (by assumption) ((But.refl _ _).alloc _) hne) hce (by omega) (by omega) (by omega)).mono ?_; rintro e w0 ⟨s, rfl, hs, C0, E0, B0⟩; have hs2 : (s.size : Int) <= 1000000000 := (by omega); have F0 := zz.trans (by first | assumption | exact zz.alloc (by assumption) _) B0; have hcl := C0.lt; clear B0) | (go_at_call 93; refine (HB.out cb eb (n) v _ _ _ (by first | assumption | exact Cur.below (by assumption) ((Below.refl _ _).alloc (Nat.le_refl _) _)) (by first | assumption | exact zf.but (by assumption) ((But.refl _ _).alloc _) hne) hce (by omega) (by omega) (by omega)).mono ?_; rintro e w0 ⟨s, rfl, hs, C0, E0, B0⟩; have hs2 : (s.size : Int) <= 1000000000 := (by omega); have F0 := zz.trans (by first | assumption | exact zz.alloc (by assumption) _) B0; have hcl := C0.lt; clear B0) | (go_at_call 51; refine (HLi.out cb eb (n + 1) v _ _ (by first | assumption | exact Cur.below (by assumption) ((Below.refl _ _).alloc (Nat.le_refl _) _)) (by first | assumption | exact zf.but (by assumption) ((But.refl _ _).alloc _) hne) hce (by omega) (by omega) (by omega)).mono ?_; rintro e w0 ⟨s, m, rfl, hs, hm, C0, E0, B0⟩; have hs2 : (s.size : Int) <= 1000000000 := (by omega); have F0 := zz.trans (by first | assumption | exact zz.alloc (by assumption) _) B0; have hcl := C0.lt; clear B0))
 all_goals
  (try simp only [Exit.inBlock, Exit.then])
  go_ret
  refine ⟨_, _, rfl, ?_, ?_, (by first | assumption | exact Cur.below (by assumption) ((Below.refl _ _).alloc (Nat.le_refl _) _)), (by first | assumption | exact zf.but (by assumption) ((But.refl _ _).alloc _) hne), (by first | assumption | exact zz.alloc (by assumption) _)⟩
  · first | omega | (simp [ByteArray.size_append, bsz] <;> omega)
  · omega
theorem zcy.mono {F b N k b' N' k' : Nat} {d d' : Int} (h : zcy F b N k d) (hb : b <= b' := by omega) (hN : N' <= N := by omega) (hk : k <= k' := by omega) (hd : d' <= d := by omega) : zcy F b' N' k' d' := fun cb eb n v x w C E hce hn h0 h1 =>
 (h cb eb n v x w C E hce (by omega) h0 (by omega)).mono fun e w' ⟨s, m, he, hs, hm, r⟩ => ⟨s, m, he, by omega, by omega, r⟩
theorem zc2.mono {F b N b' N' : Nat} {d d' : Int} (h : zc2 F b N d) (hb : b <= b' := by omega) (hN : N' <= N := by omega) (hd : d' <= d := by omega) : zc2 F b' N' d' := fun cb eb n v x q w C E hce hn h0 h1 =>
 (h cb eb n v x q w C E hce (by omega) h0 (by omega)).mono fun e w' ⟨s, he, hs, r⟩ => ⟨s, he, by omega, r⟩
theorem ze2.mono {F b N b' N' : Nat} {d d' : Int} (h : ze2 F b N d) (hb : b <= b' := by omega) (hN : N' <= N := by omega) (hd : d' <= d := by omega) : ze2 F b' N' d' := fun cb eb n v x w C E hce hn h0 h1 =>
 (h cb eb n v x w C E hce (by omega) h0 (by omega)).mono fun e w' ⟨s, he, hs, r⟩ => ⟨s, he, by omega, r⟩
theorem zr9 : zcy 51 900000 900 1 0 :=
 (zd5 0 900 0 (-91) 0 (by omega) (by omega) (by omega) (by omega) (.inl (by omega)) (fun cb eb n v x w C E hce hn h0 h1 => by omega) (fun cb eb n v x q w C E hce hn h0 h1 => by omega) (fun cb eb n v x w C E hce hn h0 h1 => by omega) zbu zd6).mono
theorem zlj : zc2 93 2300000 899 0 := (zed 900000 899 1 0 (by omega) (by omega) (by omega) zr9.mono zbu.num).mono
theorem zvz : ze2 52 2300020 898 0 := (zfu 2300000 898 (-1) (by omega) (by omega) (by omega) zlj.mono).mono
theorem zsa : zcy 51 5700000 898 2 1 := (zd5 2400000 898 1 0 1 (by omega) (by omega) (by omega) (by omega) (.inr (by omega)) zr9.mono zlj.mono zvz.mono zbu zd6).mono
theorem zpx : zc2 93 11900000 896 1 := (zed 5700000 896 2 1 (by omega) (by omega) (by omega) zsa.mono zbu.num).mono
theorem zv0 : ze2 52 2300020 898 1 := (zfu 2300000 898 0 (by omega) (by omega) (by omega) zlj.mono).mono
theorem zsb : zcy 51 24900000 896 3 2 := (zd5 12000000 896 2 1 2 (by omega) (by omega) (by omega) (by omega) (.inr (by omega)) zsa.mono zpx.mono zv0.mono zbu zd6).mono
theorem zpy : zc2 93 50300000 893 2 := (zed 24900000 893 3 2 (by omega) (by omega) (by omega) zsb.mono zbu.num).mono
theorem zv1 : ze2 52 11900020 895 2 := (zfu 11900000 895 1 (by omega) (by omega) (by omega) zpx.mono).mono
theorem zn6 : zcy 51 101700000 893 4 3 := (zd5 50400000 893 3 2 3 (by omega) (by omega) (by omega) (by omega) (.inr (by omega)) zsb.mono zpy.mono zv1.mono zbu zd6).mono
theorem zux : zc2 93 203900000 889 3 := (zed 101700000 889 4 3 (by omega) (by omega) (by omega) zn6.mono zbu.num).mono
theorem zuy : ze2 52 50300020 892 3 := (zfu 50300000 892 2 (by omega) (by omega) (by omega) zpy.mono).mono
theorem zvq : zcy 51 408900000 889 5 4 := (zd5 204000000 889 4 3 4 (by omega) (by omega) (by omega) (by omega) (.inr (by omega)) zn6.mono zux.mono zuy.mono zbu zd6).mono
theorem zz.fresh {cb : Nat} {w w1 w' : World} {o : Obj} (e : w1 = w.alloc o) (h : zz cb w.heap.size w1 w') : But cb w w' := by
 subst e
 have hs := h.size
 simp at hs
 refine ⟨h.os, h.tape, h.output, by omega, fun k hk h1 => ?_⟩
 rw [h.block k (by simp; omega) h1 (by omega)]
 exact ((But.refl cb w).alloc o).block k hk h1
set_option maxHeartbeats 8000000 in
theorem zjs (cb : Nat) (v : Value) (x : Int) (co : Bool) (w : World) (C0 : Cur w cb v) :
 Calls Tryz.prog 25 #[.pointer (some ⟨cb, 0, none⟩), .int .i64 x, .bool co] w fun e w' => ∃ s : ByteArray, e = .returned (.string s) /\ s.size <= 3000 /\ Cur w' cb v /\ But cb w w' := by
 have hcl := C0.lt
 have HL4 : Hid (zcy 51 408900000 889 5 4) := zvq
 have HL3 : Hid (zcy 51 101700000 893 4 3) := zn6
 have HLa : Hid (ze2 52 50300020 892 3) := zuy
 have HNum : Hid (zaq 53 200000 3) := zbu.num
 go_enter Tryz.func25, Tryz.ntmps25
 go_upto_region 3 with fail
 obtain ⟨eb, heb⟩ : ∃ b, b = w.heap.size := ⟨_, rfl⟩
 obtain ⟨w1, hw1⟩ : ∃ V, V = w.alloc (.cells #[.slice none 0 0, .slice none 0 0, .int .i64 0, .int .i64 x, .bool false, .bool co] 83) := ⟨_, rfl⟩
 rw [<- hw1, <- heb]
 have E1 : zf w1 cb eb 0 := ⟨.slice none 0 0, .slice none 0 0, 0, x, false, co, by rw [hw1, heb]; simp, fun i => by rw [hw1, heb, World.cell?_alloc_new], fun i => by rw [hw1]; exact World.frozen?_alloc_at _ _ _ _ heb, ⟨none, 0, rfl, .inl ⟨rfl, rfl, rfl⟩⟩, ⟨none, 0, rfl, .inl ⟨rfl, rfl, rfl⟩⟩⟩
 have C1 : Cur w1 cb v := by rw [hw1]; exact C0.below ((Below.refl _ _).alloc (Nat.le_refl _) _)
 have hF : Hid (∀ w', zz cb eb w1 w' -> But cb w w') := fun w' h => by rw [heb] at h; exact zz.fresh hw1 h
 have hce : cb < eb := by omega
 have hne : eb ≠ cb := by omega
 clear hw1 heb C0 hcl
 go_wp2_with (first | (go_at_call 49; refine (zal cb v _ _ C1 (by omega) (by omega)).mono ?_; rintro e w0 ⟨y, rfl, ⟨hy0, hy1⟩, C2, B0⟩))
 obtain ⟨y, rfl⟩ := Int.eq_ofNat_of_zero_le hy0
 have H0 : Hid (Cur w0 cb v /\ zf w0 cb eb 0 /\ zz cb eb w1 w0) := ⟨C2, E1.but B0 hne, B0.two⟩
 clear C1 E1 C2 B0
 go_loopw [8, 10] (fun o q wr => ∃ (j m : Nat) (s : ByteArray), j <= 2 + y /\ q = .int .i64 j /\ o = .string s /\ s.size <= j * 408900000 /\ m <= j * 5 /\ Cur wr cb v /\ zf wr cb eb m /\ zz cb eb w1 wr) (fun _ q _ => 2 + y - (intOf q).toNat)
 case atStart => exact ⟨0, 0, _, Nat.zero_le _, rfl, rfl, by simp [bsz], by omega, H0.out.1, H0.out.2.1, H0.out.2.2⟩
 case round =>
  obtain ⟨j, m, o, hj, rfl, rfl, ho, hm, C1, E1, F1⟩ := hrel
  have hcl := C1.lt
  have ho2 : (o.size : Int) <= 5000000000 := by omega
  by_cases hlt : j < 2 + y
  · have hlt' : (j : Int) < 2 + y := by omega
    go_wp2_with (first | (go_at_call 51; refine (HL4.out cb eb m v _ _ C1 E1 hce (by omega) (by omega) (by omega)).mono ?_; rintro e w2 ⟨s, m2, rfl, hs, hm2, C2, E2, B2⟩; have hs2 : (s.size : Int) <= 1000000000 := (by omega)))
    refine ⟨⟨j + 1, m2, _, by omega, by go_num, rfl, ?_, by omega, C2, E2, F1.trans B2⟩, by simp [intOf]; omega⟩
    simp [ByteArray.size_append, bsz] <;> omega
  · have hlt' : ¬ (j : Int) < 2 + y := by omega
    have hm2 : m <= 25 := by omega
    clear ho hm hj
    cases co
    · go_wp2
      all_goals
       (try simp only [Exit.inBlock, Exit.then])
       go_ret
       exact ⟨_, rfl, by first | omega | (simp [ByteArray.size_append, bsz] <;> omega), C1, hF.out _ F1⟩
    · go_upto_region 11 with (first | (go_at_call 52; refine (HLa.out cb eb m v _ _ C1 E1 hce (by omega) (by omega) (by omega)).mono ?_; rintro e w2 ⟨s, rfl, hs, C2, E2, B2⟩; have hs2 : (s.size : Int) <= 1000000000 := (by omega); replace F1 := F1.trans B2; replace E1 := E2; replace C1 := C2; clear B2 C2 E2) | (go_at_call 53; refine (HNum.out cb eb m v _ _ C1 E1 hne (by omega) (by omega) (by omega)).mono ?_; rintro e w3 ⟨t, rfl, ht, C3, B3⟩; have ht2 : (t.size : Int) <= 200000 := (by omega); replace E1 := E1.but B3 hne; replace F1 := F1.trans B3.two; replace C1 := C3; clear B3 C3))
      go_wp2_with (first | (go_at_call 49; refine (zal cb v _ _ C1 (by omega) (by omega)).mono ?_; rintro e w4 ⟨z, rfl, ⟨hz0, hz1⟩, C2, B0⟩))
      obtain ⟨z, rfl⟩ := Int.eq_ofNat_of_zero_le hz0
      have H1 : Hid (Cur w4 cb v /\ zf w4 cb eb m /\ zz cb eb w1 w4) := ⟨C2, E1.but B0 hne, F1.trans B0.two⟩
      clear C1 E1 F1 C2 B0
      go_loopw [8, 13] (fun o q wr => ∃ (j m : Nat) (s : ByteArray), j <= z /\ q = .int .i64 j /\ o = .string s /\ s.size <= 7000000000 + j * 200000000 /\ m <= 25 + j * 5 /\ Cur wr cb v /\ zf wr cb eb m /\ zz cb eb w1 wr) (fun _ q _ => z - (intOf q).toNat)
      case atStart => exact ⟨0, m, _, Nat.zero_le _, rfl, rfl, by simp [ByteArray.size_append, bsz] <;> omega, by omega, H1.out.1, H1.out.2.1, H1.out.2.2⟩
      case round =>
       clear hlt hlt' ho2 hcl hm2 hs hs2 ht ht2
       obtain ⟨j, m, o, hj, rfl, rfl, ho, hm, C1, E1, F1⟩ := hrel
       have hcl := C1.lt
       have ho2 : (o.size : Int) <= 9000000000 := by omega
       by_cases hlt : j < z
       · have hlt' : (j : Int) < z := by omega
         go_wp2_with (first | (go_at_call 53; refine (HNum.out cb eb m v _ _ C1 E1 hne (by omega) (by omega) (by omega)).mono ?_; rintro e w5 ⟨t, rfl, ht, C3, B3⟩; have ht2 : (t.size : Int) <= 200000 := (by omega); replace E1 := E1.but B3 hne; replace F1 := F1.trans B3.two; replace C1 := C3; clear B3 C3) | (go_at_call 51; refine (HL3.out cb eb m v _ _ C1 E1 hce (by omega) (by omega) (by omega)).mono ?_; rintro e w6 ⟨s, m2, rfl, hs, hm2, C2, E2, B2⟩; have hs2 : (s.size : Int) <= 101700000 := (by omega)))
         refine ⟨⟨j + 1, m2, _, by omega, by go_num, rfl, ?_, by omega, C2, E2, F1.trans B2⟩, by simp [intOf]; omega⟩
         simp [ByteArray.size_append, bsz] <;> omega
       · have hlt' : ¬ (j : Int) < z := by omega
         go_wp2
         all_goals
          (try simp only [Exit.inBlock, Exit.then])
          go_ret
          exact ⟨_, rfl, by first | omega | (simp [ByteArray.size_append, bsz] <;> omega), C1, hF.out _ F1⟩
end Go.Proofs.YtiglkhkfbgjjoaaGreatDoor
