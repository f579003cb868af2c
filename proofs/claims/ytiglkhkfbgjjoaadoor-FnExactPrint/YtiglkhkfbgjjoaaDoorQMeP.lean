/- - -/
import Derived.Test.YtiglkhkfbgjjoaaDoorQMtC
import Derived.Test.YtiglkhkfbgjjoaaDoorQMtD
namespace Go.Proofs.YtiglkhkfbgjjoaaDoor
set_option maxRecDepth 20000
open Go.RowKit Go.PlainAid Go.Maps
set_option linter.unusedSimpArgs false
set_option linter.unusedVariables false
theorem za3 {w W : World} {n m : Nat} (xs : List ByteArray) (A : Array Value) (hA : A = (scl xs).toArray) (hz : W.heap.size = n) (hm : xs.length = m) (hl : xs.length <= 1048576) (hb : Below w.heap.size w W) : zc w xs (.returned (.slice (some ⟨n, 0, none⟩) m m)) (W.alloc (.cells A 9)) := by
 subst hz hm
 exact ⟨_, rfl, SR.new xs hb.size hl A hA, hb.alloc hb.size _⟩
set_option maxHeartbeats 1000000 in
theorem et1 (a : Option Addr) (L c : Nat) (top : Int) (t : ByteArray) (i : Int) (ak : Option Addr) (l ck : Nat) (y : Nat -> Int) (rec : Int -> List ByteArray) (w : World) :
 Calls Tryd.prog 78 #[.agg #[.slice a L c, .int .i64 top], .agg #[.int .i64 1, .string t, .int .i64 i, .slice ak l ck]] w (zc w (bod rec ⟨1, t, i, l, y⟩)) := by
 have HE : Hid (bod rec ⟨1, t, i, l, y⟩ = [⟨#[110, 105, 108]⟩]) := by show bod _ _ = _; simp [bod]
 have B2 : Hid (Below w.heap.size w ((w.alloc (.cells #[.slice a L c, .int .i64 top] 41)).alloc (.cells #[.int .i64 1, .string t, .int .i64 i, .slice ak l ck] 71))) := ((Below.refl _ _).alloc (Nat.le_refl _) _).alloc (by simp) _
 go_enter Tryd.func78, Tryd.ntmps78
 go_wp2
 go_ret
 rw [HE.out]
 exact za3 _ _ rfl (by simp) rfl (by decide) B2.out
set_option maxHeartbeats 1000000 in
theorem et5 (a : Option Addr) (L c : Nat) (top : Int) (t : ByteArray) (i : Int) (ak : Option Addr) (l ck : Nat) (y : Nat -> Int) (rec : Int -> List ByteArray) (w : World) :
 Calls Tryd.prog 78 #[.agg #[.slice a L c, .int .i64 top], .agg #[.int .i64 5, .string t, .int .i64 i, .slice ak l ck]] w (zc w (bod rec ⟨5, t, i, l, y⟩)) := by
 have HE : Hid (bod rec ⟨5, t, i, l, y⟩ = [t]) := by show bod _ _ = _; simp [bod]
 have B2 : Hid (Below w.heap.size w ((w.alloc (.cells #[.slice a L c, .int .i64 top] 41)).alloc (.cells #[.int .i64 5, .string t, .int .i64 i, .slice ak l ck] 71))) := ((Below.refl _ _).alloc (Nat.le_refl _) _).alloc (by simp) _
 go_enter Tryd.func78, Tryd.ntmps78
 go_wp2
 go_ret
 rw [HE.out]
 exact za3 _ _ rfl (by simp) rfl (by simp) B2.out
set_option maxHeartbeats 1000000 in
theorem zkk (a : Option Addr) (L c : Nat) (top : Int) (t : ByteArray) (ak : Option Addr) (l ck : Nat) (y : Nat -> Int) (rec : Int -> List ByteArray) (w : World) :
 Calls Tryd.prog 78 #[.agg #[.slice a L c, .int .i64 top], .agg #[.int .i64 2, .string t, .int .i64 0, .slice ak l ck]] w (zc w (bod rec ⟨2, t, 0, l, y⟩)) := by
 have HE : Hid (bod rec ⟨2, t, 0, l, y⟩ = [⟨#[102, 97, 108, 115, 101]⟩]) := by show bod _ _ = _; simp [bod]
 have B2 : Hid (Below w.heap.size w ((w.alloc (.cells #[.slice a L c, .int .i64 top] 41)).alloc (.cells #[.int .i64 2, .string t, .int .i64 0, .slice ak l ck] 71))) := ((Below.refl _ _).alloc (Nat.le_refl _) _).alloc (by simp) _
 go_enter Tryd.func78, Tryd.ntmps78
 go_wp2
 go_ret
 rw [HE.out]
 exact za3 _ _ rfl (by simp) rfl (by decide) (B2.out.alloc B2.out.size _)
set_option maxHeartbeats 1000000 in
theorem zkl (a : Option Addr) (L c : Nat) (top : Int) (t : ByteArray) (ak : Option Addr) (l ck : Nat) (y : Nat -> Int) (rec : Int -> List ByteArray) (w : World) :
 Calls Tryd.prog 78 #[.agg #[.slice a L c, .int .i64 top], .agg #[.int .i64 2, .string t, .int .i64 1, .slice ak l ck]] w (zc w (bod rec ⟨2, t, 1, l, y⟩)) := by
 have HE : Hid (bod rec ⟨2, t, 1, l, y⟩ = [⟨#[116, 114, 117, 101]⟩]) := by show bod _ _ = _; simp [bod]
 have B2 : Hid (Below w.heap.size w ((w.alloc (.cells #[.slice a L c, .int .i64 top] 41)).alloc (.cells #[.int .i64 2, .string t, .int .i64 1, .slice ak l ck] 71))) := ((Below.refl _ _).alloc (Nat.le_refl _) _).alloc (by simp) _
 go_enter Tryd.func78, Tryd.ntmps78
 go_wp2
 go_ret
 rw [HE.out]
 exact za3 _ _ rfl (by simp) rfl (by decide) (B2.out.alloc B2.out.size _)
set_option maxHeartbeats 1000000 in
theorem et3 (a : Option Addr) (L c : Nat) (top : Int) (t : ByteArray) (m : Nat) (ak : Option Addr) (l ck : Nat) (y : Nat -> Int) (rec : Int -> List ByteArray) (w : World) (hm : m <= 999999999999999) :
 Calls Tryd.prog 78 #[.agg #[.slice a L c, .int .i64 top], .agg #[.int .i64 3, .string t, .int .i64 (m : Int), .slice ak l ck]] w (zc w (bod rec ⟨3, t, (m : Int), l, y⟩)) := by
 have HE : Hid (bod rec ⟨3, t, (m : Int), l, y⟩ = [⟨(Lib.itoa (m : Int)).toArray⟩]) := by show bod _ _ = _; simp [bod]
 have B2 : Hid (Below w.heap.size w ((w.alloc (.cells #[.slice a L c, .int .i64 top] 41)).alloc (.cells #[.int .i64 3, .string t, .int .i64 (m : Int), .slice ak l ck] 71))) := ((Below.refl _ _).alloc (Nat.le_refl _) _).alloc (by simp) _
 go_enter Tryd.func78, Tryd.ntmps78
 go_wp2_with (go_at_call 117; refine (zes m hm _).mono ?_; rintro e w1 ⟨rfl, b1⟩)
 go_ret
 rw [HE.out]
 exact za3 _ _ rfl (by simp) rfl (by simp) (B2.out.trans (b1.mono (by simp; omega)))
set_option maxHeartbeats 1000000 in
theorem et4 (a : Option Addr) (L c : Nat) (top : Int) (t : ByteArray) (i : Int) (ak : Option Addr) (l ck : Nat) (y : Nat -> Int) (rec : Int -> List ByteArray) (w : World) (ht : t.size <= 160) :
 Calls Tryd.prog 78 #[.agg #[.slice a L c, .int .i64 top], .agg #[.int .i64 4, .string t, .int .i64 i, .slice ak l ck]] w (zc w (bod rec ⟨4, t, i, l, y⟩)) := by
 have HE : Hid (bod rec ⟨4, t, i, l, y⟩ = [⟨#[34]⟩ ++ t ++ ⟨#[34]⟩]) := by show bod _ _ = _; simp [bod]
 have B2 : Hid (Below w.heap.size w ((w.alloc (.cells #[.slice a L c, .int .i64 top] 41)).alloc (.cells #[.int .i64 4, .string t, .int .i64 i, .slice ak l ck] 71))) := ((Below.refl _ _).alloc (Nat.le_refl _) _).alloc (by simp) _
 go_enter Tryd.func78, Tryd.ntmps78
 have ht' : (t.size : Int) <= 160 := by omega
 go_wp2
 go_ret
 rw [HE.out]
 exact za3 _ _ rfl (by simp) rfl (by simp) B2.out
set_option maxHeartbeats 1000000 in
theorem et7 (a : Option Addr) (L c : Nat) (top : Int) (t : ByteArray) (i : Int) (ak : Option Addr) (l ck : Nat) (y : Nat -> Int) (rec : Int -> List ByteArray) (w : World) (T : Nat) (hk : SlF T w (.slice ak l ck) l l (fun i => .int .i64 (y i))) (hT : T <= w.heap.size) (hl : l <= 1048576) (hs : smN rec y l <= 100000)
 (hr : ∀ (V : World) (m : Nat), m < l -> Below w.heap.size w V -> Calls Tryd.prog 36 #[.agg #[.slice a L c, .int .i64 top], .int .i64 (y m)] V (zc V (rec (y m)))) :
 Calls Tryd.prog 78 #[.agg #[.slice a L c, .int .i64 top], .agg #[.int .i64 7, .string t, .int .i64 i, .slice ak l ck]] w (zc w (bod rec ⟨7, t, i, l, y⟩)) := by
 have HE : Hid (bod rec ⟨7, t, i, l, y⟩ = [⟨#[40]⟩, ⟨#[123]⟩] ++ cmN rec y l ++ [⟨#[125]⟩, ⟨#[41]⟩]) := by show bod _ _ = _; simp [bod]
 have B2 : Hid (Below w.heap.size w ((w.alloc (.cells #[.slice a L c, .int .i64 top] 41)).alloc (.cells #[.int .i64 7, .string t, .int .i64 i, .slice ak l ck] 71))) := ((Below.refl _ _).alloc (Nat.le_refl _) _).alloc (by simp) _
 go_enter Tryd.func78, Tryd.ntmps78
 have hcl := Nat.le_trans (zd rec y l).1 hs
 have HC : Hid (∀ V, Below w.heap.size w V -> Calls Tryd.prog 118 #[.agg #[.slice a L c, .int .i64 top], .slice ak l ck] V (zc V (cmN rec y l))) := fun V hV => zbm a c L top ak l ck y rec T V (hk.below hV hT) (Nat.le_trans hT hV.size) hl hs (fun V' m hm hV' => hr V' m hm (hV.trans (hV'.mono hV.size)))
 have R0 : Hid (RdF (((w.alloc (.cells #[.slice a L c, .int .i64 top] 41)).alloc (.cells #[.int .i64 7, .string t, .int .i64 i, .slice ak l ck] 71)).alloc (.cells #[.string ⟨#[40]⟩, .string ⟨#[123]⟩] 9)) (.slice (some ⟨w.heap.size + 1 + 1, 0, none⟩) 2 2) [⟨#[40]⟩, ⟨#[123]⟩]) := by
  have := RdF.new (w := (w.alloc (.cells #[.slice a L c, .int .i64 top] 41)).alloc (.cells #[.int .i64 7, .string t, .int .i64 i, .slice ak l ck] 71)) [⟨#[40]⟩, ⟨#[123]⟩] #[.string ⟨#[40]⟩, .string ⟨#[123]⟩] rfl rfl
  show RdF _ _ _
  simpa using this
 have B3 : Below w.heap.size w (((w.alloc (.cells #[.slice a L c, .int .i64 top] 41)).alloc (.cells #[.int .i64 7, .string t, .int .i64 i, .slice ak l ck] 71)).alloc (.cells #[.string ⟨#[40]⟩, .string ⟨#[123]⟩] 9)) := B2.out.alloc B2.out.size _
 clear hk hr
 go_wp2_with fail
 refine (HC.out _ B3).mono ?_
 rintro e w1 ⟨v1, rfl, s1, b1⟩
 have R0 := rB R0 b1
 have R1 := rS s1
 have B4 : Below w.heap.size w w1 := B3.trans (b1.mono (by simp; omega))
 clear s1 b1 B3 HC
 go_wp2_with fail
 have R2 : Hid (RdF (w1.alloc (.cells #[.string ⟨#[125]⟩, .string ⟨#[41]⟩] 9)) (.slice (some ⟨w1.heap.size, 0, none⟩) 2 2) [⟨#[125]⟩, ⟨#[41]⟩]) := RdF.new _ _ rfl rfl
 have bA : Below w1.heap.size w1 (w1.alloc (.cells #[.string ⟨#[125]⟩, .string ⟨#[41]⟩] 9)) := (Below.refl _ _).alloc (Nat.le_refl _) _
 refine (za _ _ _ _ _ _ _ (rB R0 bA).out.rd (rB R1 bA).out.rd R2.out.rd (by (try simp only [la, lc, ln]); omega) (by (try simp only [la, lc, ln]); omega) (by (try simp only [la, lc, ln]); omega)).mono ?_
 rintro e w2 ⟨v2, rfl, s2, b2⟩
 have hz := B4.size
 go_wp2
 go_ret
 exact ⟨_, rfl, by rw [HE.out]; exact s2.mono (by simp; omega), B4.trans ((bA.trans (b2.mono (by simp))).mono hz)⟩
end Go.Proofs.YtiglkhkfbgjjoaaDoor
