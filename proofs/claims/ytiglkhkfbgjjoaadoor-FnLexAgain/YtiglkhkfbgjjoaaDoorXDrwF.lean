/- The model's drawing of functions, blocks and lines. -/
import Derived.Test.YtiglkhkfbgjjoaaDoorProg
import Derived.Test.YtiglkhkfbgjjoaaDoorXDrwD
import Derived.Test.YtiglkhkfbgjjoaaDoorXDrwE
namespace Go.Proofs.YtiglkhkfbgjjoaaDoor
set_option maxRecDepth 20000
open Go.RowKit
set_option linter.unusedSimpArgs false
set_option linter.unusedVariables false

theorem But.twoE {cb eb : Nat} {w w' : World} (h : But eb w w') : But2 cb eb w w' := ⟨h.os, h.tape, h.output, h.size, fun k hk _ h2 => h.block k hk h2⟩
theorem Cur.butE {w w' : World} {cb eb : Nat} {v : Value} (h : Cur w cb v) (hb : But eb w w') (hce : cb < eb) : Cur w' cb v :=
  h.keep fun k hk => hb.block k (by have := h.lt; omega) (by omega)
theorem Cur.setE {w : World} {cb eb i : Nat} {v u : Value} (h : Cur w cb v) (hce : cb < eb) : Cur (w.setCell ⟨eb, i, none⟩ u) cb v :=
  h.butE ((But.refl eb w).setCell rfl u) hce
/-- The function F draws a block of at most b bytes; the names are as they were. -/
def Blocks (F b N : Nat) (d : Int) : Prop := ∀ (cb eb n : Nat) (v : Value) (x : Int) (back : Bool) (w : World), Cur w cb v → EnvE w cb eb n → cb < eb → n ≤ N → -90 ≤ x → x ≤ d →
  Calls Tryd.prog F #[.pointer (some ⟨cb, 0, none⟩), .pointer (some ⟨eb, 0, none⟩), .int .i64 x, .bool back] w fun e w' => ∃ s : ByteArray, e = .returned (.string s) ∧ s.size ≤ b ∧ Cur w' cb v ∧ EnvE w' cb eb n ∧ But2 cb eb w w'
/-- The function F draws a function of at most b bytes; the names are as they were. -/
def Lams (F b N : Nat) (d : Int) : Prop := ∀ (cb eb n : Nat) (v : Value) (x : Int) (w : World), Cur w cb v → EnvE w cb eb n → cb < eb → n ≤ N → -80 ≤ x → x ≤ d →
  Calls Tryd.prog F #[.pointer (some ⟨cb, 0, none⟩), .pointer (some ⟨eb, 0, none⟩), .int .i64 x] w fun e w' => ∃ s : ByteArray, e = .returned (.string s) ∧ s.size ≤ b ∧ Cur w' cb v ∧ EnvE w' cb eb n ∧ But2 cb eb w w'
set_option maxHeartbeats 4000000 in
theorem lam_step (b N : Nat) (d : Int) (hb : b ≤ 5000000000) (hN : N < 1000) (hd : d ≤ 10) (HB : Hid (Blocks 159 b (N + 1) d)) : Lams 110 (b + 20) N (d + 1) := by
  intro cb eb n v x w C0 E0 hce hn hx0 hx1
  obtain ⟨vn, vk, ct, lf, fn, co, E⟩ := E0
  have hne : eb ≠ cb := by omega
  have hcl := C0.lt
  have hel := E.lt
  obtain ⟨an, cn, rfl⟩ : ∃ a c, vn = .slice a n c := (by obtain ⟨a, c, h, _⟩ := E.hn; exact ⟨a, c, h⟩)
  obtain ⟨ak, ck, rfl⟩ : ∃ a c, vk = .slice a n c := (by obtain ⟨a, c, h, _⟩ := E.hk; exact ⟨a, c, h⟩)
  have d0 : w.cell? ⟨eb, 0, none⟩ = some (.slice an n cn) := E.c 0
  have d1 : w.cell? ⟨eb, 1, none⟩ = some (.slice ak n ck) := E.c 1
  have d4 : w.cell? ⟨eb, 4, none⟩ = some (.bool fn) := E.c 4
  have HE : Hid (Env w cb eb n n (.slice an n cn) (.slice ak n ck) ct lf fn co) := E
  have HC : Hid (Cur w cb v) := C0
  clear E C0
  go_enter Tryd.func110, Tryd.ntmps110
  go_wp2_with fail
  go_region
  clear d0 d1 d4 hcl hel
  obtain ⟨w9, hw9⟩ : ∃ V, V = w.drew := ⟨_, rfl⟩
  rw [← hw9]
  have B0 : But cb w w9 := by rw [hw9]; exact (But.refl cb w).drewN 1
  have E := HE.out.but B0 hne
  have C0 : Cur w9 cb v := by rw [hw9]; exact HC.out.below (Below.refl _ _).drew
  have F0 : But2 cb eb w w9 := B0.two
  clear hw9 HE HC B0
  have d4 : w9.cell? ⟨eb, 4, none⟩ = some (.bool fn) := E.c 4
  have f4 := E.f 4
  have hel := E.lt
  have Sn := E.hn
  have Sk := E.hk
  have E1 : Hid (EnvE (w9.setCell ⟨eb, 4, none⟩ (.bool true)) cb eb n) := ⟨_, _, _, _, _, _, E.put (i := 4) (by omega) rfl E.hn E.hk⟩
  have C1 : Hid (Cur (w9.setCell ⟨eb, 4, none⟩ (.bool true)) cb v) := C0.setE hce
  have F1 : Hid (But2 cb eb w9 (w9.setCell ⟨eb, 4, none⟩ (.bool true))) := (But2.refl cb eb w9).set 4 _
  clear E C0
  go_wp2_with (first | (go_at_call 153; refine (l10New_at cb eb n v _ _ C1.out E1.out hce (by omega)).mono ?_; rintro e w1 ⟨p, rfl, hp, E2, B1⟩; have hp2 : (p.size : Int) = 3 := (by omega); have C2 := C1.out.butE B1 hce; have F2 := F1.out.trans B1.twoE; clear B1) | (go_at_call 159; refine (HB.out cb eb _ v _ true _ C2 E2 hce (by omega) (by omega) (by omega)).mono ?_; rintro e w2 ⟨s, rfl, hs, C3, E3, B2⟩; have hs2 : (s.size : Int) ≤ 5000000000 := (by omega); have F3 := F2.trans B2; clear B2; obtain ⟨un, uk, ct2, lf2, fn2, co2, E4⟩ := E3; have g0 := E4.c 0; have g1 := E4.c 1; have g4 := E4.c 4; have k0 := E4.f 0; have k1 := E4.f 1; have k4 := E4.f 4; have l4 := E4.lt; simp at g0 g1 g4))
  have E5 := E4.put (i := 0) (u := .slice an n cn) (by omega) rfl (Sn.but F3) E4.hk
  have E6 := E5.put (i := 1) (u := .slice ak n ck) (by omega) rfl E5.hn (Sk.but (F3.set 0 _))
  have E7 := E6.put (i := 4) (u := .bool fn) (by omega) rfl E6.hn E6.hk
  go_ret
  exact ⟨_, rfl, by simp [ByteArray.size_append, bsz]; omega, ((C3.setE hce).setE hce).setE hce, ⟨_, _, _, _, _, _, E7⟩, F0.trans (((F3.set 0 _).set 1 _).set 4 _)⟩
/-- The function F draws a line of at most b bytes; there are at most k more names then. -/
def Lines (F b N k : Nat) (d : Int) : Prop := ∀ (cb eb n : Nat) (v : Value) (x : Int) (w : World), Cur w cb v → EnvE w cb eb n → cb < eb → n ≤ N → -90 ≤ x → x ≤ d →
  Calls Tryd.prog F #[.pointer (some ⟨cb, 0, none⟩), .pointer (some ⟨eb, 0, none⟩), .int .i64 x] w fun e w' => ∃ (s : ByteArray) (n' : Nat), e = .returned (.string s) ∧ s.size ≤ b ∧ n' ≤ n + k ∧ Cur w' cb v ∧ EnvE w' cb eb n' ∧ But2 cb eb w w'
set_option maxHeartbeats 4000000 in
theorem block_step (b N k : Nat) (d : Int) (hb : b ≤ 1000000000) (hN : N + 2 * k ≤ 1000) (hd : d ≤ 10) (HL : Hid (Lines 109 b (N + k) k d)) (HNum : Hid (Draws 111 200000 3)) : Blocks 159 (2 * b + 500000) N d := by
  intro cb eb n v x back w C0 E0 hce hn hx0 hx1
  obtain ⟨vn, vk, ct, lf, fn, co, E⟩ := E0
  have hne : eb ≠ cb := by omega
  have hcl := C0.lt
  have hel := E.lt
  obtain ⟨an, cn, rfl⟩ : ∃ a c, vn = .slice a n c := (by obtain ⟨a, c, h, _⟩ := E.hn; exact ⟨a, c, h⟩)
  obtain ⟨ak, ck, rfl⟩ : ∃ a c, vk = .slice a n c := (by obtain ⟨a, c, h, _⟩ := E.hk; exact ⟨a, c, h⟩)
  have d0 : w.cell? ⟨eb, 0, none⟩ = some (.slice an n cn) := E.c 0
  have d1 : w.cell? ⟨eb, 1, none⟩ = some (.slice ak n ck) := E.c 1
  have HE : Hid (Env w cb eb n n (.slice an n cn) (.slice ak n ck) ct lf fn co) := E
  have HC : Hid (Cur w cb v) := C0
  clear E C0
  go_enter Tryd.func159, Tryd.ntmps159
  go_wp2_with fail
  go_region
  clear d0 d1 hcl hel
  obtain ⟨w9, hw9⟩ : ∃ V, V = w.drew := ⟨_, rfl⟩
  rw [← hw9]
  have B0 : But cb w w9 := by rw [hw9]; exact (But.refl cb w).drewN 1
  have E := HE.out.but B0 hne
  have C0 : Cur w9 cb v := by rw [hw9]; exact HC.out.below (Below.refl _ _).drew
  have F0 : But2 cb eb w w9 := B0.two
  clear hw9 HE HC B0
  go_wp2_with (first | (go_at_call 73; refine (l1Below_any cb v _ _ C0 (by omega) (by omega)).mono ?_; rintro e w0 ⟨y, rfl, ⟨hy0, hy1⟩, C1, B0⟩))
  have E1 := E.but B0 hne
  have F1 := F0.trans B0.two
  obtain ⟨y, rfl⟩ := Int.eq_ofNat_of_zero_le hy0
  have Sn : Hid (StrS w0 cb eb (.slice an n cn) n 3) := E1.hn
  have Sk : Hid (IntS w0 cb eb (.slice ak n ck) n) := E1.hk
  have H0 : Hid (Cur w0 cb v ∧ EnvE w0 cb eb n ∧ But2 cb eb w w0) := ⟨C1, ⟨_, _, _, _, _, _, E1⟩, F1⟩
  clear C0 E F0 C1 E1 F1 B0
  go_loopw [11, 13] (fun o q wr => ∃ (j m : Nat) (s : ByteArray), j ≤ 1 + y ∧ q = .int .i64 j ∧ o = .string s ∧ s.size ≤ 2 + j * b ∧ m ≤ n + j * k ∧ Cur wr cb v ∧ EnvE wr cb eb m ∧ But2 cb eb w0 wr) (fun _ q _ => 1 + y - (intOf q).toNat)
  case atStart => exact ⟨0, n, _, Nat.zero_le _, rfl, rfl, by simp [bsz], by omega, H0.out.1, H0.out.2.1, But2.refl _ _ _⟩
  case round =>
    obtain ⟨j, m, o, hj, rfl, rfl, ho, hm, C1, E1, F1⟩ := hrel
    have hcl := C1.lt
    have hj2 : j ≤ 2 := by omega
    have hjb : j * b ≤ 2 * b := Nat.mul_le_mul_right _ hj2
    have hjk : j * k ≤ 2 * k := Nat.mul_le_mul_right _ hj2
    have ho2 : (o.size : Int) ≤ 3000000000 := by omega
    have hsb : (j + 1) * b = j * b + b := Nat.succ_mul _ _
    have hsk : (j + 1) * k = j * k + k := Nat.succ_mul _ _
    by_cases hlt : j < 1 + y
    · have hlt' : (j : Int) < 1 + y := by omega
      have hj1 : j ≤ 1 := by omega
      have hjk : j * k ≤ 1 * k := Nat.mul_le_mul_right _ hj1
      go_wp2_with (first | (go_at_call 109; refine (HL.out cb eb m v _ _ C1 E1 hce (by omega) (by omega) (by omega)).mono ?_; rintro e w2 ⟨s, m2, rfl, hs, hm2, C2, E2, B2⟩; have hs2 : (s.size : Int) ≤ 1000000000 := (by omega)))
      refine ⟨⟨j + 1, m2, _, by omega, by go_num, rfl, ?_, by rw [hsk]; omega, C2, E2, F1.trans B2⟩, by simp [intOf]; omega⟩
      rw [hsb]
      simp [ByteArray.size_append, bsz] <;> omega
    · have hlt' : ¬ (j : Int) < 1 + y := by omega
      obtain ⟨un, uk, ct2, lf2, fn2, co2, E4⟩ := E1
      have hel := E4.lt
      have g5 : _ = some (Value.bool co2) := E4.c 5
      have g0 : _ = some un := E4.c 0
      have g1 : _ = some uk := E4.c 1
      have k0 := E4.f 0
      have k1 := E4.f 1
      go_wp2_with (first | (go_at_call 32; refine (l1Once_any cb v _ _ C1 (by omega) (by omega)).mono ?_; rintro e w3 ⟨q, rfl, C3, B3⟩; replace E4 := E4.but B3 hne; replace F1 := F1.trans B3.two; replace C1 := C3; clear B3 C3) | (go_at_call 111; refine (HNum.out cb eb m v _ _ C1 ⟨_, _, _, _, _, _, E4⟩ hne (by omega) (by omega) (by omega)).mono ?_; rintro e w3 ⟨s, rfl, hs, C3, B3⟩; have hs2 : (s.size : Int) ≤ 200000 := (by omega); replace E4 := E4.but B3 hne; replace F1 := F1.trans B3.two; replace C1 := C3; clear B3 C3; have hel := E4.lt; have g0 : _ = some un := E4.c 0; have g1 : _ = some uk := E4.c 1; have k0 := E4.f 0; have k1 := E4.f 1))
      all_goals
        (try simp only [Exit.inBlock, Exit.then])
        have E5 := E4.put (i := 0) (u := .slice an n cn) (by omega) rfl (Sn.out.but F1) E4.hk
        have E6 := E5.put (i := 1) (u := .slice ak n ck) (by omega) rfl E5.hn (Sk.out.but (F1.set 0 _))
        go_ret
        exact ⟨_, rfl, by first | omega | (simp [ByteArray.size_append, bsz] <;> omega), (C1.setE hce).setE hce, ⟨_, _, _, _, _, _, E6⟩, H0.out.2.2.trans ((F1.set 0 _).set 1 _)⟩
end Go.Proofs.YtiglkhkfbgjjoaaDoor
