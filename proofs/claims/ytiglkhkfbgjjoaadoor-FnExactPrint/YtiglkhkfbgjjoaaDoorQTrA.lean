/- - -/
import Derived.Test.YtiglkhkfbgjjoaaDoorQRowF
namespace Go.Proofs.YtiglkhkfbgjjoaaDoor
set_option maxRecDepth 20000
open Go.RowKit
set_option linter.unusedSimpArgs false
set_option linter.unusedVariables false
structure KnD where
 k : Int
 t : ByteArray
 i : Int
 len : Nat
 y : Nat -> Int
def zcm (T : Nat) (w : World) (b o : Nat) (x : KnD) : Prop :=
 ∃ a c, w.cell? ⟨b, o, none⟩ = some (.int .i64 x.k) /\ w.cell? ⟨b, o + 1, none⟩ = some (.string x.t) /\ w.cell? ⟨b, o + 2, none⟩ = some (.int .i64 x.i) /\ w.cell? ⟨b, o + 3, none⟩ = some (.slice a x.len c) /\ SlF T w (.slice a x.len c) x.len x.len (fun i => .int .i64 (x.y i))
def KnF (T : Nat) (w : World) (v : Value) (L : Nat) (X : Nat -> KnD) : Prop :=
 ∃ a cap, v = .slice a L cap /\ (L = 0 \/ ∃ b off, a = some ⟨b, off, none⟩ /\ b < T /\ b < w.heap.size /\ ∀ i, i < L -> zcm T w b (off + i * 4) (X i))
theorem zcm.below {T C : Nat} {w w' : World} {b o : Nat} {x : KnD} (h : zcm T w b o x) (hb : Below C w w') (hT : T <= C) (hl : b < T) : zcm T w' b o x := by
 obtain ⟨a, c, h0, h1, h2, h3, h4⟩ := h
 have e := fun i => hb.cell (p := ⟨b, i, none⟩) (Nat.lt_of_lt_of_le hl hT)
 exact ⟨a, c, by rw [e]; exact h0, by rw [e]; exact h1, by rw [e]; exact h2, by rw [e]; exact h3, h4.below hb hT⟩
theorem KnF.below {T C : Nat} {w w' : World} {v : Value} {L : Nat} {X : Nat -> KnD} (h : KnF T w v L X) (hb : Below C w w') (hT : T <= C) : KnF T w' v L X := by
 obtain ⟨a, cap, rfl, h⟩ := h
 refine ⟨a, cap, rfl, ?_⟩
 rcases h with h | ⟨b, off, rfl, hl, hz, hc⟩
 · exact .inl h
 · exact .inr ⟨b, off, rfl, hl, Nat.lt_of_lt_of_le hz hb.size, fun i hi => (hc i hi).below hb hT hl⟩
theorem KnF.mono {T T' : Nat} {w : World} {v : Value} {L : Nat} {X : Nat -> KnD} (h : KnF T w v L X) (hT : T <= T') : KnF T' w v L X := by
 obtain ⟨a, cap, rfl, h⟩ := h
 refine ⟨a, cap, rfl, ?_⟩
 rcases h with h | ⟨b, off, rfl, hl, hz, hc⟩
 · exact .inl h
 · refine .inr ⟨b, off, rfl, Nat.lt_of_lt_of_le hl hT, hz, fun i hi => ?_⟩
   obtain ⟨a, c, h0, h1, h2, h3, h4⟩ := hc i hi
   exact ⟨a, c, h0, h1, h2, h3, h4.mono hT⟩
theorem KnF.at_ {T : Nat} {w : World} {a : Option Addr} {cap L : Nat} {X : Nat -> KnD} (h : KnF T w (.slice a L cap) L X) {j : Nat} (hj : j < L) : ∃ b off, a = some ⟨b, off, none⟩ /\ b < T /\ b < w.heap.size /\ ∀ i, i < L -> zcm T w b (off + i * 4) (X i) := by
 obtain ⟨a', cap', he, h⟩ := h
 simp only [Value.slice.injEq] at he
 obtain ⟨rfl, _, _⟩ := he
 rcases h with h | h
 · omega
 · exact h
def IEq (n1 n2 : Nat) (y1 y2 : Nat -> Int) : Prop := n1 = n2 /\ ∀ i, i < n1 -> y1 i = y2 i
theorem zcq (a : Option Addr) (n c : Nat) (left : Int) (w : World) (h0 : 0 <= left) (h1 : left <= 1048576) (hn : n <= 9223372036854775807) :
 Calls Tryd.prog 113 #[.slice a n c, .int .i64 left] w fun e w' => e = .returned (.int .i64 (if (n : Int) <= left then left - n else -1)) /\ w' = w := by
 have hn' : (n : Int) <= 9223372036854775807 := by omega
 by_cases h : (n : Int) <= left
 · rw [if_pos h]
   have h2 : 0 <= left - (n : Int) := by omega
   go_enter Tryd.func113, Tryd.ntmps113
   go_wp2
   go_ret
   exact ⟨rfl, rfl⟩
 · rw [if_neg h]
   have h2 : left - (n : Int) < 0 := by omega
   go_enter Tryd.func113, Tryd.ntmps113
   go_wp2
   go_ret
   exact ⟨rfl, rfl⟩
theorem zcr (k : Int) (t : ByteArray) (i : Int) (a : Option Addr) (l c : Nat) (left : Int) (w : World) (h0 : 0 <= left) (h1 : left <= 1048576) (hl : l <= 9223372036854775807) (ht : t.size <= 9223372036854775807) :
 Calls Tryd.prog 75 #[.agg #[.int .i64 k, .string t, .int .i64 i, .slice a l c], .int .i64 left] w fun e w' => e = .returned (.int .i64 (if (t.size : Int) + l <= left then left - t.size - l else -1)) /\ Below w.heap.size w w' := by
 have ht' : (t.size : Int) <= 9223372036854775807 := by omega
 by_cases g1 : (t.size : Int) <= left
 · have g0 : 0 <= left - (t.size : Int) := by omega
   by_cases g2 : (l : Int) <= left - (t.size : Int)
   · have g3 : 0 <= left - (t.size : Int) - l := by omega
     rw [if_pos (by omega)]
     go_enter Tryd.func75, Tryd.ntmps75
     go_wp2_with (go_at_call 113; refine (zcq _ _ _ _ _ (by omega) (by omega) hl).mono ?_; rw [if_pos g2]; rintro e w1 ⟨rfl, rfl⟩)
     go_ret
     exact ⟨rfl, zf (Below.refl _ _)⟩
   · rw [if_neg (by omega)]
     go_enter Tryd.func75, Tryd.ntmps75
     go_wp2_with (go_at_call 113; refine (zcq _ _ _ _ _ (by omega) (by omega) hl).mono ?_; rw [if_neg g2]; rintro e w1 ⟨rfl, rfl⟩)
     go_ret
     exact ⟨rfl, zf (Below.refl _ _)⟩
 · have g0 : left - (t.size : Int) < 0 := by omega
   rw [if_neg (by omega)]
   go_enter Tryd.func75, Tryd.ntmps75
   go_wp2
   go_ret
   exact ⟨rfl, zf (Below.refl _ _)⟩
set_option maxHeartbeats 1000000 in
theorem zel (a : Option Addr) (L cap : Nat) (X : Nat -> KnD) (T : Nat) (left : Int) (w : World) (hs : KnF T w (.slice a L cap) L X) (hT : T <= w.heap.size) (h0 : 0 <= left) (h1 : left <= 1048576) (hL : L <= 9223372036854775807) (hX : ∀ j, j < L -> (X j).len <= 9223372036854775807 /\ (X j).t.size <= 9223372036854775807) :
 Calls Tryd.prog 34 #[.slice a L cap, .int .i64 left] w fun e w' => ∃ r : Int, e = .returned (.int .i64 r) /\ (r = -1 \/ 0 <= r /\ r <= left /\ L <= 1048576 /\ ∀ j, j < L -> (X j).len <= 1048576 /\ (X j).t.size <= 1048576) /\ Below w.heap.size w w' := by
 have hL' : (L : Int) <= 9223372036854775807 := by omega
 have HS : Hid (KnF T w (.slice a L cap) L X) := hs
 have HX : Hid (∀ j, j < L -> (X j).len <= 9223372036854775807 /\ (X j).t.size <= 9223372036854775807) := hX
 clear hs hX
 by_cases g1 : (L : Int) <= left
 · have g0 : 0 <= left - (L : Int) := by omega
   go_enter Tryd.func34, Tryd.ntmps34
   go_wp2
   go_loopw [1, 5] (fun q i wr => ∃ (j : Nat) (z : Int), j <= L /\ i = .int .i64 j /\ q = .int .i64 z /\ 0 <= z /\ z <= left /\ (∀ p, p < j -> (X p).len <= 1048576 /\ (X p).t.size <= 1048576) /\ Below w.heap.size w wr) (fun _ i _ => L - (intOf i).toNat)
   case atStart => exact ⟨0, _, Nat.zero_le _, rfl, rfl, g0, by omega, fun p hp => absurd hp (Nat.not_lt_zero _), Below.refl _ _⟩
   case round =>
    obtain ⟨j, z, hj, rfl, rfl, z0, z1, hp, hF⟩ := hrel
    have HP : Hid (∀ p, p < j -> (X p).len <= 1048576 /\ (X p).t.size <= 1048576) := hp
    clear hp
    by_cases hlt : j < L
    · have hlt' : (j : Int) < (L : Int) := by omega
      obtain ⟨b, off, rfl, lb, lz, hc⟩ := HS.out.at_ hlt
      obtain ⟨ax, cx, c0, c1, c2, c3, _⟩ := (hc j hlt).below hF hT lb
      obtain ⟨x1, x2⟩ := HX.out j hlt
      have HXj : Hid ((X j).len <= 1048576 /\ (X j).t.size <= 1048576 -> ∀ p, p < j + 1 -> (X p).len <= 1048576 /\ (X p).t.size <= 1048576) := fun h p hp => if e : p = j then e ▸ h else HP.out p (by omega)
      clear hc HS HX HP
      generalize X j = x at c0 c1 c2 c3 x1 x2 HXj
      obtain ⟨k, t, i, l, y⟩ := x
      simp only at c0 c1 c2 c3 x1 x2 HXj
      by_cases g2 : (t.size : Int) + l <= z
      · have g3 : 0 <= z - (t.size : Int) - l := by omega
        go_wp2_with (go_at_call 75; refine (zcr _ _ _ _ _ _ _ _ z0 (by omega) x1 x2).mono ?_; rw [if_pos g2]; rintro e w1 ⟨rfl, b1⟩)
        go_roundw
        case rel => exact ⟨j + 1, _, by omega, by go_num, rfl, g3, by omega, HXj.out (by omega), zh hF b1⟩
        case measure => simp [intOf]; omega
      · go_wp2_with (go_at_call 75; refine (zcr _ _ _ _ _ _ _ _ z0 (by omega) x1 x2).mono ?_; rw [if_neg g2]; rintro e w1 ⟨rfl, b1⟩)
        go_ret
        exact ⟨_, rfl, .inl rfl, zh hF b1⟩
    · have hge : (L : Int) <= (j : Int) := by omega
      clear hT
      go_wp2
      go_ret
      exact ⟨_, rfl, .inr ⟨z0, z1, by omega, fun p hp => HP.out p (by omega)⟩, hF⟩
 · have g0 : left - (L : Int) < 0 := by omega
   go_enter Tryd.func34, Tryd.ntmps34
   go_wp2
   go_ret
   exact ⟨_, rfl, .inl rfl, Below.refl _ _⟩
theorem zfb (a : Option Addr) (L c : Nat) (top : Int) (X : Nat -> KnD) (T : Nat) (left : Int) (w : World) (hs : KnF T w (.slice a L c) L X) (hT : T <= w.heap.size) (h0 : 0 <= left) (h1 : left <= 1048576) (hL : L <= 9223372036854775807) (hX : ∀ j, j < L -> (X j).len <= 9223372036854775807 /\ (X j).t.size <= 9223372036854775807) :
 Calls Tryd.prog 15 #[.agg #[.slice a L c, .int .i64 top], .int .i64 left] w fun e w' => ∃ r : Int, e = .returned (.int .i64 r) /\ (r = -1 \/ 0 <= r /\ r <= left /\ L <= 1048576 /\ ∀ j, j < L -> (X j).len <= 1048576 /\ (X j).t.size <= 1048576) /\ Below w.heap.size w w' := by
 have HS : Hid (KnF T w (.slice a L c) L X) := hs
 have HX : Hid (∀ j, j < L -> (X j).len <= 9223372036854775807 /\ (X j).t.size <= 9223372036854775807) := hX
 clear hs hX
 have B1 : Below w.heap.size w (w.alloc (.cells #[.slice a L c, .int .i64 top] 35)) := (Below.refl _ _).alloc (Nat.le_refl _) _
 go_enter Tryd.func15, Tryd.ntmps15
 go_wp2_with fail
 refine (zel _ _ _ X _ _ _ (HS.out.below B1 hT) (by simp; omega) h0 h1 hL HX.out).mono ?_
 rintro e w1 ⟨r, rfl, hr, b1⟩
 rcases hr with rfl | ⟨r0, r1, r2, r3⟩
 · go_wp2
   go_ret
   exact ⟨_, rfl, .inl rfl, zf b1⟩
 · have R3 : Hid (∀ j, j < L -> (X j).len <= 1048576 /\ (X j).t.size <= 1048576) := r3
   clear r3
   go_wp2
   go_ret
   exact ⟨_, rfl, .inr ⟨r0, by omega, r2, R3.out⟩, zf b1⟩
end Go.Proofs.YtiglkhkfbgjjoaaDoor
