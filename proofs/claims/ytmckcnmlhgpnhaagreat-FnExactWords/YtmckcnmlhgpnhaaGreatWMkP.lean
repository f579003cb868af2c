/- - -/
import Derived.Test.YtmckcnmlhgpnhaaGreatWRowF
namespace Go.Proofs.YtmckcnmlhgpnhaaGreat
set_option maxRecDepth 20000
open Go.RowKit
set_option linter.unusedSimpArgs false
set_option linter.unusedVariables false
def upF (p : Nat -> Bool) (q : Nat -> Int) : Nat -> Value := fun j => if j % 2 = 0 then .bool (p (j / 2)) else .int .i64 (q (j / 2))
def inF (p q : Nat -> Int) : Nat -> Value := fun j => if j % 2 = 0 then .int .i64 (p (j / 2)) else .int .i64 (q (j / 2))
theorem zkc (p : Nat -> Bool) (q : Nat -> Int) (k : Nat) : upF p q (k * 2) = .bool (p k) := by
 unfold upF
 rw [if_pos (by omega), Nat.mul_div_cancel k (by omega : 0 < 2)]
theorem zkd (p : Nat -> Bool) (q : Nat -> Int) (k : Nat) : upF p q (k * 2 + 1) = .int .i64 (q k) := by
 unfold upF
 rw [if_neg (by omega), show (k * 2 + 1) / 2 = k by omega]
theorem zhh (p q : Nat -> Int) (k : Nat) : inF p q (k * 2) = .int .i64 (p k) := by
 unfold inF
 rw [if_pos (by omega), Nat.mul_div_cancel k (by omega : 0 < 2)]
theorem zke (p q : Nat -> Int) (k : Nat) : inF p q (k * 2 + 1) = .int .i64 (q k) := by
 unfold inF
 rw [if_neg (by omega), show (k * 2 + 1) / 2 = k by omega]
structure PtD where
 pa : Int
 sl : Int
 un : Nat
 ub : Nat -> Bool
 ui : Nat -> Int
 cn : Nat
 co : Nat -> Int
 ca : Nat -> Int
def zh5 (T : Nat) (w : World) (b o : Nat) (x : PtD) : Prop :=
 ∃ a c a' c', w.cell? ⟨b, o, none⟩ = some (.int .i64 x.pa) /\ w.cell? ⟨b, o + 1, none⟩ = some (.int .i64 x.sl) /\ w.cell? ⟨b, o + 2, none⟩ = some (.slice a x.un c) /\ w.cell? ⟨b, o + 3, none⟩ = some (.slice a' x.cn c') /\ SlF T w (.slice a x.un c) x.un (2 * x.un) (upF x.ub x.ui) /\ SlF T w (.slice a' x.cn c') x.cn (2 * x.cn) (inF x.co x.ca)
def PtF (T : Nat) (w : World) (v : Value) (L : Nat) (X : Nat -> PtD) : Prop :=
 ∃ a cap, v = .slice a L cap /\ (L = 0 \/ ∃ b off, a = some ⟨b, off, none⟩ /\ b < T /\ b < w.heap.size /\ ∀ i, i < L -> zh5 T w b (off + i * 4) (X i))
def TxF (T : Nat) (w : World) (v : Value) (n : Nat) (s : Nat -> ByteArray) : Prop := SlF T w v n n (fun i => .string (s i))
theorem TxF.below {T C : Nat} {w w' : World} {v : Value} {n : Nat} {s : Nat -> ByteArray} (h : TxF T w v n s) (hb : Below C w w') (hT : T <= C) : TxF T w' v n s := SlF.below h hb hT
theorem TxF.mono {T T' : Nat} {w : World} {v : Value} {n : Nat} {s : Nat -> ByteArray} (h : TxF T w v n s) (hT : T <= T') : TxF T' w v n s := SlF.mono h hT
theorem zh5.below {T C : Nat} {w w' : World} {b o : Nat} {x : PtD} (h : zh5 T w b o x) (hb : Below C w w') (hT : T <= C) (hl : b < T) : zh5 T w' b o x := by
 obtain ⟨a, c, a', c', h0, h1, h2, h3, h4, h5⟩ := h
 have e := fun i => hb.cell (p := ⟨b, i, none⟩) (Nat.lt_of_lt_of_le hl hT)
 exact ⟨a, c, a', c', by rw [e]; exact h0, by rw [e]; exact h1, by rw [e]; exact h2, by rw [e]; exact h3, h4.below hb hT, h5.below hb hT⟩
theorem PtF.below {T C : Nat} {w w' : World} {v : Value} {L : Nat} {X : Nat -> PtD} (h : PtF T w v L X) (hb : Below C w w') (hT : T <= C) : PtF T w' v L X := by
 obtain ⟨a, cap, rfl, h⟩ := h
 refine ⟨a, cap, rfl, ?_⟩
 rcases h with h | ⟨b, off, rfl, hl, hz, hc⟩
 · exact .inl h
 · exact .inr ⟨b, off, rfl, hl, Nat.lt_of_lt_of_le hz hb.size, fun i hi => (hc i hi).below hb hT hl⟩
theorem PtF.mono {T T' : Nat} {w : World} {v : Value} {L : Nat} {X : Nat -> PtD} (h : PtF T w v L X) (hT : T <= T') : PtF T' w v L X := by
 obtain ⟨a, cap, rfl, h⟩ := h
 refine ⟨a, cap, rfl, ?_⟩
 rcases h with h | ⟨b, off, rfl, hl, hz, hc⟩
 · exact .inl h
 · refine .inr ⟨b, off, rfl, Nat.lt_of_lt_of_le hl hT, hz, fun i hi => ?_⟩
   obtain ⟨a, c, a', c', h0, h1, h2, h3, h4, h5⟩ := hc i hi
   exact ⟨a, c, a', c', h0, h1, h2, h3, h4.mono hT, h5.mono hT⟩
theorem PtF.at_ {T : Nat} {w : World} {a : Option Addr} {cap L : Nat} {X : Nat -> PtD} (h : PtF T w (.slice a L cap) L X) {j : Nat} (hj : j < L) : ∃ b off, a = some ⟨b, off, none⟩ /\ b < T /\ b < w.heap.size /\ ∀ i, i < L -> zh5 T w b (off + i * 4) (X i) := by
 obtain ⟨a', cap', he, h⟩ := h
 simp only [Value.slice.injEq] at he
 obtain ⟨rfl, _, _⟩ := he
 rcases h with h | h
 · omega
 · exact h
def PLe (x : PtD) (m : Nat) : Prop := x.un <= m /\ x.cn <= m
theorem zh6 (a : Option Addr) (n c : Nat) (left : Int) (w : World) (h0 : 0 <= left) (h1 : left <= 1048576) (hn : n <= 9223372036854775807) :
 Calls Tryz.prog 176 #[.slice a n c, .int .i64 left] w fun e w' => e = .returned (.int .i64 (if (n : Int) <= left then left - n else -1)) /\ w' = w := by
 have hn' : (n : Int) <= 9223372036854775807 := by omega
 by_cases h : (n : Int) <= left
 · rw [if_pos h]
   have h2 : 0 <= left - (n : Int) := by omega
   go_enter Tryz.func176, Tryz.ntmps176
   go_wp2
   go_ret
   exact ⟨rfl, rfl⟩
 · rw [if_neg h]
   have h2 : left - (n : Int) < 0 := by omega
   go_enter Tryz.func176, Tryz.ntmps176
   go_wp2
   go_ret
   exact ⟨rfl, rfl⟩
theorem zkf (a : Option Addr) (n c : Nat) (left : Int) (w : World) (h0 : 0 <= left) (h1 : left <= 1048576) (hn : n <= 9223372036854775807) :
 Calls Tryz.prog 177 #[.slice a n c, .int .i64 left] w fun e w' => e = .returned (.int .i64 (if (n : Int) <= left then left - n else -1)) /\ w' = w := by
 have hn' : (n : Int) <= 9223372036854775807 := by omega
 by_cases h : (n : Int) <= left
 · rw [if_pos h]
   have h2 : 0 <= left - (n : Int) := by omega
   go_enter Tryz.func177, Tryz.ntmps177
   go_wp2
   go_ret
   exact ⟨rfl, rfl⟩
 · rw [if_neg h]
   have h2 : left - (n : Int) < 0 := by omega
   go_enter Tryz.func177, Tryz.ntmps177
   go_wp2
   go_ret
   exact ⟨rfl, rfl⟩
theorem zi0 (pa sl : Int) (au : Option Addr) (un cu : Nat) (ac : Option Addr) (cn cc : Nat) (left : Int) (w : World) (h0 : 0 <= left) (h1 : left <= 1048576) (hl : un <= 9223372036854775807) (ht : cn <= 9223372036854775807) :
 Calls Tryz.prog 137 #[.agg #[.int .i64 pa, .int .i64 sl, .slice au un cu, .slice ac cn cc], .int .i64 left] w fun e w' => e = .returned (.int .i64 (if (un : Int) + cn <= left then left - un - cn else -1)) /\ Below w.heap.size w w' := by
 have ht' : (cn : Int) <= 9223372036854775807 := by omega
 have hl' : (un : Int) <= 9223372036854775807 := by omega
 by_cases g1 : (un : Int) <= left
 · have g0 : 0 <= left - (un : Int) := by omega
   by_cases g2 : (cn : Int) <= left - (un : Int)
   · have g3 : 0 <= left - (un : Int) - cn := by omega
     rw [if_pos (by omega)]
     go_enter Tryz.func137, Tryz.ntmps137
     go_wp2_with (first | (go_at_call 176; refine (zh6 _ _ _ _ _ (by omega) (by omega) hl).mono ?_; rw [if_pos g1]; rintro e w1 ⟨rfl, rfl⟩) | (go_at_call 177; refine (zkf _ _ _ _ _ (by omega) (by omega) ht).mono ?_; rw [if_pos g2]; rintro e w1 ⟨rfl, rfl⟩))
     go_ret
     exact ⟨rfl, zd (Below.refl _ _)⟩
   · rw [if_neg (by omega)]
     go_enter Tryz.func137, Tryz.ntmps137
     go_wp2_with (first | (go_at_call 176; refine (zh6 _ _ _ _ _ (by omega) (by omega) hl).mono ?_; rw [if_pos g1]; rintro e w1 ⟨rfl, rfl⟩) | (go_at_call 177; refine (zkf _ _ _ _ _ (by omega) (by omega) ht).mono ?_; rw [if_neg (by omega)]; rintro e w1 ⟨rfl, rfl⟩))
     go_ret
     exact ⟨rfl, zd (Below.refl _ _)⟩
 · rw [if_neg (by omega)]
   go_enter Tryz.func137, Tryz.ntmps137
   go_wp2_with (go_at_call 176; refine (zh6 _ _ _ _ _ (by omega) (by omega) hl).mono ?_; rw [if_neg (by omega)]; rintro e w1 ⟨rfl, rfl⟩)
   go_ret
   exact ⟨rfl, zd (Below.refl _ _)⟩
set_option maxHeartbeats 1000000 in
theorem zn0 (a : Option Addr) (L cap : Nat) (X : Nat -> PtD) (T : Nat) (left : Int) (w : World) (hs : PtF T w (.slice a L cap) L X) (hT : T <= w.heap.size) (h0 : 0 <= left) (h1 : left <= 1048576) (hL : L <= 9223372036854775807) (hX : ∀ j, j < L -> PLe (X j) 9223372036854775807) :
 Calls Tryz.prog 102 #[.slice a L cap, .int .i64 left] w fun e w' => ∃ r : Int, e = .returned (.int .i64 r) /\ (r = -1 \/ 0 <= r /\ r <= left /\ L <= 1048576 /\ ∀ j, j < L -> PLe (X j) 1048576) /\ Below w.heap.size w w' := by
 have hL' : (L : Int) <= 9223372036854775807 := by omega
 have HS : Hid (PtF T w (.slice a L cap) L X) := hs
 have HX : Hid (∀ j, j < L -> PLe (X j) 9223372036854775807) := hX
 clear hs hX
 by_cases g1 : (L : Int) <= left
 · have g0 : 0 <= left - (L : Int) := by omega
   go_enter Tryz.func102, Tryz.ntmps102
   go_wp2
   go_loopw [1, 5] (fun q i wr => ∃ (j : Nat) (z : Int), j <= L /\ i = .int .i64 j /\ q = .int .i64 z /\ 0 <= z /\ z <= left /\ (∀ p, p < j -> PLe (X p) 1048576) /\ Below w.heap.size w wr) (fun _ i _ => L - (intOf i).toNat)
   case atStart => exact ⟨0, _, Nat.zero_le _, rfl, rfl, g0, by omega, fun p hp => absurd hp (Nat.not_lt_zero _), Below.refl _ _⟩
   case round =>
    obtain ⟨j, z, hj, rfl, rfl, z0, z1, hp, hF⟩ := hrel
    have HP : Hid (∀ p, p < j -> PLe (X p) 1048576) := hp
    clear hp
    by_cases hlt : j < L
    · have hlt' : (j : Int) < (L : Int) := by omega
      obtain ⟨b, off, rfl, lb, lz, hc⟩ := HS.out.at_ hlt
      obtain ⟨ax, cx, ay, cy, c0, c1, c2, c3, _, _⟩ := (hc j hlt).below hF hT lb
      obtain ⟨x1, x2⟩ := HX.out j hlt
      have HXj : Hid ((X j).un <= 1048576 /\ (X j).cn <= 1048576 -> ∀ p, p < j + 1 -> PLe (X p) 1048576) := fun h p hp => if e : p = j then e ▸ h else HP.out p (by omega)
      clear hc HS HX HP
      generalize X j = x at c0 c1 c2 c3 x1 x2 HXj
      obtain ⟨pa, sl, un, ub, ui, cn, co, ca⟩ := x
      simp only at c0 c1 c2 c3 x1 x2 HXj
      by_cases g2 : (un : Int) + cn <= z
      · have g3 : 0 <= z - (un : Int) - cn := by omega
        go_wp2_with (go_at_call 137; refine (zi0 _ _ _ _ _ _ _ _ _ _ z0 (by omega) x1 x2).mono ?_; rw [if_pos g2]; rintro e w1 ⟨rfl, b1⟩)
        go_roundw
        case rel => exact ⟨j + 1, _, by omega, by go_num, rfl, g3, by omega, HXj.out (by omega), zc hF b1⟩
        case measure => simp [intOf]; omega
      · go_wp2_with (go_at_call 137; refine (zi0 _ _ _ _ _ _ _ _ _ _ z0 (by omega) x1 x2).mono ?_; rw [if_neg g2]; rintro e w1 ⟨rfl, b1⟩)
        go_ret
        exact ⟨_, rfl, .inl rfl, zc hF b1⟩
    · have hge : (L : Int) <= (j : Int) := by omega
      clear hT
      go_wp2
      go_ret
      exact ⟨_, rfl, .inr ⟨z0, z1, by omega, fun p hp => HP.out p (by omega)⟩, hF⟩
 · have g0 : left - (L : Int) < 0 := by omega
   go_enter Tryz.func102, Tryz.ntmps102
   go_wp2
   go_ret
   exact ⟨_, rfl, .inl rfl, Below.refl _ _⟩
set_option maxHeartbeats 1000000 in
theorem zhn (a : Option Addr) (L cap : Nat) (s : Nat -> ByteArray) (T : Nat) (left : Int) (w : World) (hs : TxF T w (.slice a L cap) L s) (h0 : 0 <= left) (h1 : left <= 1048576) (hL : L <= 9223372036854775807) (hX : ∀ j, j < L -> (s j).size <= 9223372036854775807) :
 Calls Tryz.prog 55 #[.slice a L cap, .int .i64 left] w fun e w' => ∃ r : Int, e = .returned (.int .i64 r) /\ (r = -1 \/ 0 <= r /\ r <= left /\ L <= 1048576 /\ ∀ j, j < L -> (s j).size <= 1048576) /\ w = w' := by
 have hL' : (L : Int) <= 9223372036854775807 := by omega
 have HS : Hid (TxF T w (.slice a L cap) L s) := hs
 have HX : Hid (∀ j, j < L -> (s j).size <= 9223372036854775807) := hX
 clear hs hX
 by_cases g1 : (L : Int) <= left
 · have g0 : 0 <= left - (L : Int) := by omega
   go_enter Tryz.func55, Tryz.ntmps55
   go_wp2
   go_loopw [1, 5] (fun q i wr => wr = w /\ ∃ (j : Nat) (z : Int), j <= L /\ i = .int .i64 j /\ q = .int .i64 z /\ 0 <= z /\ z <= left /\ Hid (∀ p, p < j -> (s p).size <= 1048576)) (fun _ i _ => L - (intOf i).toNat)
   case atStart => exact ⟨rfl, 0, _, Nat.zero_le _, rfl, rfl, g0, by omega, fun p hp => absurd hp (Nat.not_lt_zero _)⟩
   case round =>
    obtain ⟨rfl, j, z, hj, rfl, rfl, z0, z1, HP⟩ := hrel
    by_cases hlt : j < L
    · have hlt' : (j : Int) < (L : Int) := by omega
      obtain ⟨b, off, cap', hv, _, lz, hc⟩ := SlF.parts HS.out hlt
      simp only [Value.slice.injEq] at hv
      obtain ⟨rfl, _, rfl⟩ := hv
      have hcj := hc j hlt
      have x1 := HX.out j hlt
      have HXj : Hid ((s j).size <= 1048576 -> ∀ p, p < j + 1 -> (s p).size <= 1048576) := fun h p hp => if e : p = j then e ▸ h else HP.out p (by omega)
      clear hc HS HX HP
      generalize s j = x at hcj x1 HXj
      have x2 : (x.size : Int) <= 9223372036854775807 := by omega
      by_cases g2 : (x.size : Int) <= z
      · have g3 : 0 <= z - (x.size : Int) := by omega
        go_wp2
        go_roundw
        case rel => exact ⟨trivial, j + 1, _, by omega, by go_num, rfl, g3, by omega, HXj.out (by omega)⟩
        case measure => simp [intOf]; omega
      · have g3 : z - (x.size : Int) < 0 := by omega
        go_wp2
        go_ret
        exact ⟨_, rfl, .inl rfl, rfl⟩
    · have hge : (L : Int) <= (j : Int) := by omega
      go_wp2
      go_ret
      exact ⟨_, rfl, .inr ⟨z0, z1, by omega, fun p hp => HP.out p (by omega)⟩, rfl⟩
 · have g0 : left - (L : Int) < 0 := by omega
   go_enter Tryz.func55, Tryz.ntmps55
   go_wp2
   go_ret
   exact ⟨_, rfl, .inl rfl, rfl⟩
theorem zn1 (a : Option Addr) (L c : Nat) (X : Nat -> PtD) (a' : Option Addr) (n c' : Nat) (s : Nat -> ByteArray) (T : Nat) (left : Int) (w : World) (hs : PtF T w (.slice a L c) L X) (hs' : TxF T w (.slice a' n c') n s) (hT : T <= w.heap.size) (h0 : 0 <= left) (h1 : left <= 1048576) (hL : L <= 9223372036854775807) (hX : ∀ j, j < L -> PLe (X j) 9223372036854775807) (hn : n <= 9223372036854775807) (hS : ∀ j, j < n -> (s j).size <= 9223372036854775807) :
 Calls Tryz.prog 54 #[.agg #[.slice a L c, .slice a' n c'], .int .i64 left] w fun e w' => ∃ r : Int, e = .returned (.int .i64 r) /\ (r = -1 \/ 0 <= r /\ r <= left /\ L <= 1048576 /\ (∀ j, j < L -> PLe (X j) 1048576) /\ n <= 1048576) /\ Below w.heap.size w w' := by
 have B1 : Below w.heap.size w (w.alloc (.cells #[.slice a L c, .slice a' n c'] 37)) := (Below.refl _ _).alloc (Nat.le_refl _) _
 have HE : Hid (Calls _ _ _ _ _) := zn0 a L c X T left _ (hs.below B1 hT) (by simp; omega) h0 h1 hL hX
 have HS' : Hid (TxF T w (.slice a' n c') n s) := hs'
 have HSz : Hid (∀ j, j < n -> (s j).size <= 9223372036854775807) := hS
 clear hs hs' hX hS
 go_enter Tryz.func54, Tryz.ntmps54
 go_wp2_with fail
 refine HE.out.mono ?_
 rintro e w1 ⟨r, rfl, hr, b1⟩
 have k1 : ∀ i, w1.cell? ⟨w.heap.size, i, none⟩ = (#[.slice a L c, .slice a' n c'] : Array Value)[i]? := fun i => by rw [(zo b1).1 _ _ (by simp)]; simp [go_sem]
 have BB := B1.trans (b1.mono (by simp))
 have z1 : w.heap.size < w1.heap.size := by have := b1.size; simp at this; omega
 clear b1 HE
 rcases hr with rfl | ⟨r0, r1, l3, hX2⟩
 · go_wp2
   go_ret
   exact ⟨_, rfl, .inl rfl, BB⟩
 have HX2 : Hid (∀ j, j < L -> PLe (X j) 1048576) := hX2
 have HE2 : Hid (Calls _ _ _ _ _) := zhn a' n c' s T r w1 (HS'.out.below BB hT) r0 (by omega) hn HSz.out
 clear hX2 HSz HS'
 go_wp2_with fail
 refine HE2.out.mono ?_
 rintro e w2 ⟨q, rfl, hq, rfl⟩
 clear HE2
 rcases hq with rfl | ⟨q0, q1, l4, _⟩
 · go_wp2
   go_ret
   exact ⟨_, rfl, .inl rfl, BB⟩
 go_wp2
 go_ret
 exact ⟨_, rfl, .inr ⟨q0, by omega, l3, HX2.out, l4⟩, BB⟩
def PLr (x : PtD) : Prop := PLe x 9223372036854775807 /\ ∀ k, k < x.cn -> -9223372036854775808 <= x.ca k /\ x.ca k <= 9223372036854775807
def zv (L n : Nat) (sl : Int) (un cn : Nat) (op : Int) : Int × Int :=
 if op = 1 \/ op = 13 \/ op = 14 \/ op = 15 \/ op = 22 \/ op = 24 \/ op = 25 \/ op = 26 then (0, 0)
 else if op = 2 then (0, 1)
 else if op = 3 then (-9223372036854775808, 9223372036854775807)
 else if op = 4 then (0, (n : Int) - 1)
 else if op = 5 \/ op = 6 \/ op = 8 \/ op = 9 \/ op = 11 then (0, sl - 1)
 else if op = 7 \/ op = 10 then (0, (un : Int) - 1)
 else if op = 12 then (0, (L : Int) - 1)
 else if op = 16 then (1, 10)
 else if op = 17 then (1, 3)
 else if op = 18 \/ op = 19 \/ op = 20 \/ op = 21 then (0, (cn : Int) - 1)
 else if op = 23 then (0, 40)
 else if op = 27 then (1, 11)
 else (0, -1)
def zeg (sl : Int) (un : Nat) (ub : Nat -> Bool) (ui : Nat -> Int) (k : Nat) : Prop := 0 <= ui k /\ ui k < (if ub k = true then sl else (un : Int))
def zwl (sl : Int) (un : Nat) (y : PtD) : Prop := ∀ k, k < y.un -> zeg sl un y.ub y.ui k
def zaa (L n : Nat) (X : Nat -> PtD) (sl : Int) (un cn : Nat) (op a : Int) : Prop :=
 (zv L n sl un cn op).1 <= a /\ a <= (zv L n sl un cn op).2 /\ (op = 12 -> zwl sl un (X a.toNat))
def zey (x : PtD) : Prop := 0 <= x.pa /\ x.pa <= x.sl /\ x.sl <= 20 /\ x.un <= 12 /\ 1 <= x.cn /\ x.cn <= 4000 /\ x.co (x.cn - 1) = 24
def ze5 (L n : Nat) (X : Nat -> PtD) (x : PtD) : Prop := ∀ k, k < x.cn -> zaa L n X x.sl x.un x.cn (x.co k) (x.ca k)
def zh7 (n : Nat) (s : Nat -> ByteArray) : Prop := n <= 255 /\ ∀ j, j < n -> (s j).size <= 160
def zgq (L : Nat) (X : Nat -> PtD) : Prop := 1 <= L /\ L <= 100 /\ (∀ i, i < L -> zey (X i)) /\ (X 0).pa = 0 /\ (X 0).un = 0
def MOk (L : Nat) (X : Nat -> PtD) (n : Nat) (s : Nat -> ByteArray) : Prop := zh7 n s /\ zgq L X /\ ∀ i, i < L -> ze5 L n X (X i)
def zf7 (P : Prop) (w : World) (e : Ending) (w' : World) : Prop := ∃ q : Bool, e = .returned (.bool q) /\ (q = true ↔ P) /\ Below w.heap.size w w'
theorem zam {w w' : World} {C b : Nat} {A : Array Value} (h : ∀ i, w.cell? ⟨b, i, none⟩ = A[i]?) (hb : Below C w w') (hC : b < C) : ∀ i, w'.cell? ⟨b, i, none⟩ = A[i]? := fun i => by
 rw [hb.cell (p := ⟨b, i, none⟩) hC]; exact h i
theorem zb1 {P : Nat -> Prop} {j : Nat} (h : ∀ p, p < j -> P p) (hj : P j) : ∀ p, p < j + 1 -> P p := fun p hp => by
 by_cases e : p = j
 · subst e; exact hj
 · exact h p (by omega)
end Go.Proofs.YtmckcnmlhgpnhaaGreat
