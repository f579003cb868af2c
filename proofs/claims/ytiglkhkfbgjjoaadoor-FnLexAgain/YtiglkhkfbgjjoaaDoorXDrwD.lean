/- The model's drawing of tables and of any expression. -/
import Derived.Test.YtiglkhkfbgjjoaaDoorProg
import Derived.Test.YtiglkhkfbgjjoaaDoorXDrwC
namespace Go.Proofs.YtiglkhkfbgjjoaaDoor
set_option maxRecDepth 20000
open Go.RowKit
set_option linter.unusedSimpArgs false
set_option linter.unusedVariables false

set_option maxHeartbeats 4000000 in
theorem tab_step (b : Nat) (d : Int) (hb : b ≤ 5000000) (hb2 : 100 ≤ b) (hd0 : 0 ≤ d) (hd : d ≤ 10) (HNum : Hid (Draws 111 b d)) (HAny : Hid (Draws 157 b d)) : Draws 155 (10 * b) (d + 1) (-50) := by
  intro cb eb n v x w C0 E0 hne hn hx0 hx1
  have hcl := C0.lt
  have F0 := But.refl cb w
  go_enter Tryd.func155, Tryd.ntmps155
  go_wp2_with (first | (go_at_call 73; refine (l1Below_any cb v _ _ (by first | assumption | exact Cur.below (by assumption) ((Below.refl _ _).alloc (Nat.le_refl _) _)) (by omega) (by omega)).mono ?_; rintro e w0 ⟨y, rfl, ⟨hy0, hy1⟩, C0, B0⟩; have E0 := EnvE.but (by first | assumption | exact EnvE.but (by assumption) ((But.refl _ _).alloc _) hne) B0 hne; have F0 := But.trans (by first | assumption | exact But.alloc (by assumption) _) B0; (try have S0 := StrS.but (eb := eb) (by assumption) (But.two B0)); have hcl := C0.lt; clear B0))
  obtain ⟨y, rfl⟩ := Int.eq_ofNat_of_zero_le hy0
  have H0 : Hid (Cur w0 cb v ∧ EnvE w0 cb eb n ∧ But cb w w0) := ⟨C0, E0, F0⟩
  clear C0 E0 F0 hcl
  go_loopw [7, 9] (fun o q wr => ∃ (j : Nat) (s : ByteArray), j ≤ y ∧ q = .int .i64 j ∧ o = .string s ∧ s.size ≤ 1 + j * (2 * b + 30) ∧ Cur wr cb v ∧ EnvE wr cb eb n ∧ But cb w wr) (fun _ q _ => y - (intOf q).toNat)
  case atStart => exact ⟨0, _, Nat.zero_le _, rfl, rfl, by simp [bsz], H0.out.1, H0.out.2.1, H0.out.2.2⟩
  case round =>
    obtain ⟨j, o, hj, rfl, rfl, ho, C0, E0, F0⟩ := hrel
    have hcl := C0.lt
    have hj3 : j ≤ 3 := by omega
    have hjb : j * (2 * b + 30) ≤ 3 * (2 * b + 30) := Nat.mul_le_mul_right _ hj3
    have ho2 : (o.size : Int) ≤ 100000000 := by omega
    have hsu : (j + 1) * (2 * b + 30) = j * (2 * b + 30) + (2 * b + 30) := Nat.succ_mul _ _
    generalize j * (2 * b + 30) = J at *
    by_cases hlt : j < y
    · have hlt' : (j : Int) < y := by omega
      go_wp2_with (first | (go_at_call 73; refine (l1Below_any cb v _ _ (by first | assumption | exact Cur.below (by assumption) ((Below.refl _ _).alloc (Nat.le_refl _) _)) (by omega) (by omega)).mono ?_; rintro e w0 ⟨y, rfl, ⟨hy0, hy1⟩, C0, B0⟩; have E0 := EnvE.but (by first | assumption | exact EnvE.but (by assumption) ((But.refl _ _).alloc _) hne) B0 hne; have F0 := But.trans (by first | assumption | exact But.alloc (by assumption) _) B0; (try have S0 := StrS.but (eb := eb) (by assumption) (But.two B0)); have hcl := C0.lt; clear B0) | (go_at_call 74; refine (l1Pick_at cb eb v _ _ 20 _ (by first | assumption | exact Cur.below (by assumption) ((Below.refl _ _).alloc (Nat.le_refl _) _)) (by first | exact lit_strs (by rfl) (Cur.lt (v := v) (by assumption)) (EnvE.lt (n := n) (by assumption)) (by rfl) | exact StrS.mono (by assumption) (by omega)) (by omega) (by omega)).mono ?_; rintro e w0 ⟨s, rfl, hs, C0, B0⟩; have hs2 : (s.size : Int) ≤ 20 := (by omega); have E0 := EnvE.but (by first | assumption | exact EnvE.but (by assumption) ((But.refl _ _).alloc _) hne) B0 hne; have F0 := But.trans (by first | assumption | exact But.alloc (by assumption) _) B0; (try have S0 := StrS.but (eb := eb) (by assumption) (But.two B0)); have hcl := C0.lt; clear B0) | (go_at_call 157; refine (HAny.out cb eb n v _ _ (by first | assumption | exact Cur.below (by assumption) ((Below.refl _ _).alloc (Nat.le_refl _) _)) (by first | assumption | exact EnvE.but (by assumption) ((But.refl _ _).alloc _) hne) hne hn (by omega) (by omega)).mono ?_; rintro e w0 ⟨s, rfl, hs, C0, B0⟩; have hs2 : (s.size : Int) ≤ 100000000 := (by omega); have E0 := EnvE.but (by first | assumption | exact EnvE.but (by assumption) ((But.refl _ _).alloc _) hne) B0 hne; have F0 := But.trans (by first | assumption | exact But.alloc (by assumption) _) B0; (try have S0 := StrS.but (eb := eb) (by assumption) (But.two B0)); have hcl := C0.lt; clear B0) | (go_at_call 111; refine (HNum.out cb eb n v _ _ (by first | assumption | exact Cur.below (by assumption) ((Below.refl _ _).alloc (Nat.le_refl _) _)) (by first | assumption | exact EnvE.but (by assumption) ((But.refl _ _).alloc _) hne) hne hn (by omega) (by omega)).mono ?_; rintro e w0 ⟨s, rfl, hs, C0, B0⟩; have hs2 : (s.size : Int) ≤ 100000000 := (by omega); have E0 := EnvE.but (by first | assumption | exact EnvE.but (by assumption) ((But.refl _ _).alloc _) hne) B0 hne; have F0 := But.trans (by first | assumption | exact But.alloc (by assumption) _) B0; (try have S0 := StrS.but (eb := eb) (by assumption) (But.two B0)); have hcl := C0.lt; clear B0))
      all_goals
        refine ⟨⟨j + 1, _, by omega, by go_num, rfl, ?_, (by first | assumption | exact Cur.below (by assumption) ((Below.refl _ _).alloc (Nat.le_refl _) _)), (by first | assumption | exact EnvE.but (by assumption) ((But.refl _ _).alloc _) hne), (by first | assumption | exact But.alloc (by assumption) _)⟩, by simp [intOf]; omega⟩
        rw [hsu]
        first | omega | (simp [ByteArray.size_append, bsz] <;> omega)
    · have hlt' : ¬ (j : Int) < y := by omega
      go_wp2
      all_goals
        (try simp only [Exit.inBlock, Exit.then])
        go_ret
        exact ⟨_, rfl, by first | omega | (simp [ByteArray.size_append, bsz] <;> omega), (by first | assumption | exact Cur.below (by assumption) ((Below.refl _ _).alloc (Nat.le_refl _) _)), (by first | assumption | exact But.alloc (by assumption) _)⟩
set_option maxHeartbeats 4000000 in
theorem any_step (b : Nat) (d : Int) (hb : b ≤ 5000000) (hb2 : 100 ≤ b) (hd0 : 0 ≤ d) (hd : d ≤ 10) (HNum : Hid (Draws 111 (10 * b) (d + 1))) (HStr : Hid (Draws 154 (10 * b) (d + 1))) (HBool : Hid (Draws 158 b d)) (HTab : Hid (Draws 155 (10 * b) (d + 1) (-50))) : Draws 157 (10 * b) (d + 1) := by
  intro cb eb n v x w C0 E0 hne hn hx0 hx1
  have hcl := C0.lt
  have F0 := But.refl cb w
  go_enter Tryd.func157, Tryd.ntmps157
  go_wp2_with (first | (go_at_call 73; refine (l1Below_any cb v _ _ (by first | assumption | exact Cur.below (by assumption) ((Below.refl _ _).alloc (Nat.le_refl _) _)) (by omega) (by omega)).mono ?_; rintro e w0 ⟨y, rfl, ⟨hy0, hy1⟩, C0, B0⟩; have E0 := EnvE.but (by first | assumption | exact EnvE.but (by assumption) ((But.refl _ _).alloc _) hne) B0 hne; have F0 := But.trans (by first | assumption | exact But.alloc (by assumption) _) B0; (try have S0 := StrS.but (eb := eb) (by assumption) (But.two B0)); have hcl := C0.lt; clear B0; obtain ⟨vn, vk, ct, lf, fn, co, EE⟩ := E0; have E0 : EnvE w0 cb eb n := ⟨vn, vk, ct, lf, fn, co, EE⟩; have S0 : StrS w0 cb eb vn n 3 := EE.hn; obtain ⟨an, cn, rfl⟩ : ∃ a c, vn = .slice a n c := (by obtain ⟨a, c, h, _⟩ := EE.hn; exact ⟨a, c, h⟩); have d0 : w0.cell? ⟨eb, 0, none⟩ = some (.slice an n cn) := EE.c 0; have hel := EE.lt; clear EE) | (go_at_call 74; refine (l1Pick_at cb eb v _ _ 20 _ (by first | assumption | exact Cur.below (by assumption) ((Below.refl _ _).alloc (Nat.le_refl _) _)) (by first | exact lit_strs (by rfl) (Cur.lt (v := v) (by assumption)) (EnvE.lt (n := n) (by assumption)) (by rfl) | exact StrS.mono (by assumption) (by omega)) (by omega) (by omega)).mono ?_; rintro e w0 ⟨s, rfl, hs, C0, B0⟩; have hs2 : (s.size : Int) ≤ 20 := (by omega); have E0 := EnvE.but (by first | assumption | exact EnvE.but (by assumption) ((But.refl _ _).alloc _) hne) B0 hne; have F0 := But.trans (by first | assumption | exact But.alloc (by assumption) _) B0; (try have S0 := StrS.but (eb := eb) (by assumption) (But.two B0)); have hcl := C0.lt; clear B0) | (go_at_call 111; refine (HNum.out cb eb n v _ _ (by first | assumption | exact Cur.below (by assumption) ((Below.refl _ _).alloc (Nat.le_refl _) _)) (by first | assumption | exact EnvE.but (by assumption) ((But.refl _ _).alloc _) hne) hne hn (by omega) (by omega)).mono ?_; rintro e w0 ⟨s, rfl, hs, C0, B0⟩; have hs2 : (s.size : Int) ≤ 100000000 := (by omega); have E0 := EnvE.but (by first | assumption | exact EnvE.but (by assumption) ((But.refl _ _).alloc _) hne) B0 hne; have F0 := But.trans (by first | assumption | exact But.alloc (by assumption) _) B0; (try have S0 := StrS.but (eb := eb) (by assumption) (But.two B0)); have hcl := C0.lt; clear B0) | (go_at_call 154; refine (HStr.out cb eb n v _ _ (by first | assumption | exact Cur.below (by assumption) ((Below.refl _ _).alloc (Nat.le_refl _) _)) (by first | assumption | exact EnvE.but (by assumption) ((But.refl _ _).alloc _) hne) hne hn (by omega) (by omega)).mono ?_; rintro e w0 ⟨s, rfl, hs, C0, B0⟩; have hs2 : (s.size : Int) ≤ 100000000 := (by omega); have E0 := EnvE.but (by first | assumption | exact EnvE.but (by assumption) ((But.refl _ _).alloc _) hne) B0 hne; have F0 := But.trans (by first | assumption | exact But.alloc (by assumption) _) B0; (try have S0 := StrS.but (eb := eb) (by assumption) (But.two B0)); have hcl := C0.lt; clear B0) | (go_at_call 158; refine (HBool.out cb eb n v _ _ (by first | assumption | exact Cur.below (by assumption) ((Below.refl _ _).alloc (Nat.le_refl _) _)) (by first | assumption | exact EnvE.but (by assumption) ((But.refl _ _).alloc _) hne) hne hn (by omega) (by omega)).mono ?_; rintro e w0 ⟨s, rfl, hs, C0, B0⟩; have hs2 : (s.size : Int) ≤ 100000000 := (by omega); have E0 := EnvE.but (by first | assumption | exact EnvE.but (by assumption) ((But.refl _ _).alloc _) hne) B0 hne; have F0 := But.trans (by first | assumption | exact But.alloc (by assumption) _) B0; (try have S0 := StrS.but (eb := eb) (by assumption) (But.two B0)); have hcl := C0.lt; clear B0) | (go_at_call 155; refine (HTab.out cb eb n v _ _ (by first | assumption | exact Cur.below (by assumption) ((Below.refl _ _).alloc (Nat.le_refl _) _)) (by first | assumption | exact EnvE.but (by assumption) ((But.refl _ _).alloc _) hne) hne hn (by omega) (by omega)).mono ?_; rintro e w0 ⟨s, rfl, hs, C0, B0⟩; have hs2 : (s.size : Int) ≤ 100000000 := (by omega); have E0 := EnvE.but (by first | assumption | exact EnvE.but (by assumption) ((But.refl _ _).alloc _) hne) B0 hne; have F0 := But.trans (by first | assumption | exact But.alloc (by assumption) _) B0; (try have S0 := StrS.but (eb := eb) (by assumption) (But.two B0)); have hcl := C0.lt; clear B0))
  all_goals
    (try simp only [Exit.inBlock, Exit.then])
    go_ret
    exact ⟨_, rfl, by first | omega | (simp [ByteArray.size_append, bsz] <;> omega), (by first | assumption | exact Cur.below (by assumption) ((Below.refl _ _).alloc (Nat.le_refl _) _)), (by first | assumption | exact But.alloc (by assumption) _)⟩
/-- All expressions, at a depth. -/
structure DrawsAll (b : Nat) (d : Int) : Prop where
  num : Draws 111 b d
  str : Draws 154 b d
  bool : Draws 158 b d
  any : Draws 157 b d
theorem all_zero : DrawsAll 200 0 := ⟨num_zero, str_zero, bool_zero, any_zero⟩
theorem all_step {b : Nat} {d : Int} (h : DrawsAll b d) (hb : b ≤ 5000000) (hb2 : 100 ≤ b) (hd0 : 0 ≤ d) (hd : d ≤ 10) : DrawsAll (10 * b) (d + 1) := by
  have n1 := num_step b d hb (by omega) hd h.num h.str h.bool
  have s1 := str_step b d hb (by omega) hd h.any h.str
  have b1 := bool_step b d hb (by omega) hd h.num h.str h.bool h.any
  have t1 := tab_step b d hb hb2 hd0 hd h.num h.any
  exact ⟨n1, s1, b1, any_step b d hb hb2 hd0 hd n1 s1 h.bool t1⟩
theorem all_three : DrawsAll 200000 3 := all_step (all_step (all_step all_zero (by omega) (by omega) (by omega) (by omega)) (by omega) (by omega) (by omega) (by omega)) (by omega) (by omega) (by omega) (by omega)
theorem tab_three : Draws 155 200000 3 (-50) := by
  have h := all_step (all_step all_zero (by omega) (by omega) (by omega) (by omega)) (by omega) (by omega) (by omega) (by omega)
  exact tab_step _ _ (by omega) (by omega) (by omega) (by omega) h.num h.any
end Go.Proofs.YtiglkhkfbgjjoaaDoor
