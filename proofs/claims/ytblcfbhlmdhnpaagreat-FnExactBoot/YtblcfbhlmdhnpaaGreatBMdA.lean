/- - -/
import Derived.Test.YtblcfbhlmdhnpaaGreatBRowF
namespace Go.Proofs.YtblcfbhlmdhnpaaGreat
set_option maxRecDepth 20000
open Go.RowKit
set_option linter.unusedSimpArgs false
set_option linter.unusedVariables false
def upF (p : Nat -> Bool) (q : Nat -> Int) : Nat -> Value := fun j => if j % 2 = 0 then .bool (p (j / 2)) else .int .i64 (q (j / 2))
def inF (p q : Nat -> Int) : Nat -> Value := fun j => if j % 2 = 0 then .int .i64 (p (j / 2)) else .int .i64 (q (j / 2))
theorem zb1 (p : Nat -> Bool) (q : Nat -> Int) (k : Nat) : upF p q (k * 2) = .bool (p k) := by
 unfold upF
 rw [if_pos (by omega), Nat.mul_div_cancel k (by omega : 0 < 2)]
theorem zb2 (p : Nat -> Bool) (q : Nat -> Int) (k : Nat) : upF p q (k * 2 + 1) = .int .i64 (q k) := by
 unfold upF
 rw [if_neg (by omega), show (k * 2 + 1) / 2 = k by omega]
theorem za5 (p q : Nat -> Int) (k : Nat) : inF p q (k * 2) = .int .i64 (p k) := by
 unfold inF
 rw [if_pos (by omega), Nat.mul_div_cancel k (by omega : 0 < 2)]
theorem zb3 (p q : Nat -> Int) (k : Nat) : inF p q (k * 2 + 1) = .int .i64 (q k) := by
 unfold inF
 rw [if_neg (by omega), show (k * 2 + 1) / 2 = k by omega]
structure PtD where
 pa : Int
 sl : Int
 un : Nat
 ub : Nat -> Bool
 ui : Nat -> Int
 cn : Nat
 co : Nat -> Int
 ca : Nat -> Int
def zbs (T : Nat) (w : World) (b o : Nat) (x : PtD) : Prop :=
 ∃ a c a' c', w.cell? ⟨b, o, none⟩ = some (.int .i64 x.pa) /\ w.cell? ⟨b, o + 1, none⟩ = some (.int .i64 x.sl) /\ w.cell? ⟨b, o + 2, none⟩ = some (.slice a x.un c) /\ w.cell? ⟨b, o + 3, none⟩ = some (.slice a' x.cn c') /\ SlF T w (.slice a x.un c) x.un (2 * x.un) (upF x.ub x.ui) /\ SlF T w (.slice a' x.cn c') x.cn (2 * x.cn) (inF x.co x.ca)
def PtF (T : Nat) (w : World) (v : Value) (L : Nat) (X : Nat -> PtD) : Prop :=
 ∃ a cap, v = .slice a L cap /\ (L = 0 \/ ∃ b off, a = some ⟨b, off, none⟩ /\ b < T /\ b < w.heap.size /\ ∀ i, i < L -> zbs T w b (off + i * 4) (X i))
def TxF (T : Nat) (w : World) (v : Value) (n : Nat) (s : Nat -> ByteArray) : Prop := SlF T w v n n (fun i => .string (s i))
theorem TxF.below {T C : Nat} {w w' : World} {v : Value} {n : Nat} {s : Nat -> ByteArray} (h : TxF T w v n s) (hb : Below C w w') (hT : T <= C) : TxF T w' v n s := SlF.below h hb hT
theorem TxF.mono {T T' : Nat} {w : World} {v : Value} {n : Nat} {s : Nat -> ByteArray} (h : TxF T w v n s) (hT : T <= T') : TxF T' w v n s := SlF.mono h hT
theorem zbs.below {T C : Nat} {w w' : World} {b o : Nat} {x : PtD} (h : zbs T w b o x) (hb : Below C w w') (hT : T <= C) (hl : b < T) : zbs T w' b o x := by
 obtain ⟨a, c, a', c', h0, h1, h2, h3, h4, h5⟩ := h
 have e := fun i => hb.cell (p := ⟨b, i, none⟩) (Nat.lt_of_lt_of_le hl hT)
 exact ⟨a, c, a', c', by rw [e]; exact h0, by rw [e]; exact h1, by rw [e]; exact h2, by rw [e]; exact h3, h4.below hb hT, h5.below hb hT⟩
theorem PtF.below {T C : Nat} {w w' : World} {v : Value} {L : Nat} {X : Nat -> PtD} (h : PtF T w v L X) (hb : Below C w w') (hT : T <= C) : PtF T w' v L X := by
 obtain ⟨a, cap, rfl, h⟩ := h
 refine ⟨a, cap, rfl, ?_⟩
 rcases h with h | ⟨b, off, rfl, hl, hz, hc⟩
 · exact .inl h
 · exact .inr ⟨b, off, rfl, hl, Nat.lt_of_lt_of_le hz hb.size, fun i hi => (hc i hi).below hb hT hl⟩
theorem PtF.mono {T T' : Nat} {w : World} {v : Value} {L : Nat} {X : Nat -> PtD} (h : PtF T w v L X) (hT : T <= T') : PtF T' w v L X := by
 obtain ⟨a, cap, rfl, h⟩ := h
 refine ⟨a, cap, rfl, ?_⟩
 rcases h with h | ⟨b, off, rfl, hl, hz, hc⟩
 · exact .inl h
 · refine .inr ⟨b, off, rfl, Nat.lt_of_lt_of_le hl hT, hz, fun i hi => ?_⟩
   obtain ⟨a, c, a', c', h0, h1, h2, h3, h4, h5⟩ := hc i hi
   exact ⟨a, c, a', c', h0, h1, h2, h3, h4.mono hT, h5.mono hT⟩
theorem PtF.at_ {T : Nat} {w : World} {a : Option Addr} {cap L : Nat} {X : Nat -> PtD} (h : PtF T w (.slice a L cap) L X) {j : Nat} (hj : j < L) : ∃ b off, a = some ⟨b, off, none⟩ /\ b < T /\ b < w.heap.size /\ ∀ i, i < L -> zbs T w b (off + i * 4) (X i) := by
 obtain ⟨a', cap', he, h⟩ := h
 simp only [Value.slice.injEq] at he
 obtain ⟨rfl, _, _⟩ := he
 rcases h with h | h
 · omega
 · exact h
def PLe (x : PtD) (m : Nat) : Prop := x.un <= m /\ x.cn <= m
theorem zbt (a : Option Addr) (n c : Nat) (left : Int) (w : World) (h0 : 0 <= left) (h1 : left <= 1048576) (hn : n <= 9223372036854775807) :
 Calls Tryz.prog 72 #[.slice a n c, .int .i64 left] w fun e w' => e = .returned (.int .i64 (if (n : Int) <= left then left - n else -1)) /\ w' = w := by
 have hn' : (n : Int) <= 9223372036854775807 := by omega
 by_cases h : (n : Int) <= left
 · rw [if_pos h]
   have h2 : 0 <= left - (n : Int) := by omega
   go_enter Tryz.func72, Tryz.ntmps72
   go_wp2
   go_ret
   exact ⟨rfl, rfl⟩
 · rw [if_neg h]
   have h2 : left - (n : Int) < 0 := by omega
   go_enter Tryz.func72, Tryz.ntmps72
   go_wp2
   go_ret
   exact ⟨rfl, rfl⟩
theorem zcn (a : Option Addr) (n c : Nat) (left : Int) (w : World) (h0 : 0 <= left) (h1 : left <= 1048576) (hn : n <= 9223372036854775807) :
 Calls Tryz.prog 73 #[.slice a n c, .int .i64 left] w fun e w' => e = .returned (.int .i64 (if (n : Int) <= left then left - n else -1)) /\ w' = w := by
 have hn' : (n : Int) <= 9223372036854775807 := by omega
 by_cases h : (n : Int) <= left
 · rw [if_pos h]
   have h2 : 0 <= left - (n : Int) := by omega
   go_enter Tryz.func73, Tryz.ntmps73
   go_wp2
   go_ret
   exact ⟨rfl, rfl⟩
 · rw [if_neg h]
   have h2 : left - (n : Int) < 0 := by omega
   go_enter Tryz.func73, Tryz.ntmps73
   go_wp2
   go_ret
   exact ⟨rfl, rfl⟩
theorem zb9 (pa sl : Int) (au : Option Addr) (un cu : Nat) (ac : Option Addr) (cn cc : Nat) (left : Int) (w : World) (h0 : 0 <= left) (h1 : left <= 1048576) (hl : un <= 9223372036854775807) (ht : cn <= 9223372036854775807) :
 Calls Tryz.prog 38 #[.agg #[.int .i64 pa, .int .i64 sl, .slice au un cu, .slice ac cn cc], .int .i64 left] w fun e w' => e = .returned (.int .i64 (if (un : Int) + cn <= left then left - un - cn else -1)) /\ Below w.heap.size w w' := by
 have ht' : (cn : Int) <= 9223372036854775807 := by omega
 have hl' : (un : Int) <= 9223372036854775807 := by omega
 by_cases g1 : (un : Int) <= left
 · have g0 : 0 <= left - (un : Int) := by omega
   by_cases g2 : (cn : Int) <= left - (un : Int)
   · have g3 : 0 <= left - (un : Int) - cn := by omega
     rw [if_pos (by omega)]
     go_enter Tryz.func38, Tryz.ntmps38
     go_wp2_with (first | (go_at_call 72; refine (zbt _ _ _ _ _ (by omega) (by omega) hl).mono ?_; rw [if_pos g1]; rintro e w1 ⟨rfl, rfl⟩) | (go_at_call 73; refine (zcn _ _ _ _ _ (by omega) (by omega) ht).mono ?_; rw [if_pos g2]; rintro e w1 ⟨rfl, rfl⟩))
     go_ret
     exact ⟨rfl, zw (Below.refl _ _)⟩
   · rw [if_neg (by omega)]
     go_enter Tryz.func38, Tryz.ntmps38
     go_wp2_with (first | (go_at_call 72; refine (zbt _ _ _ _ _ (by omega) (by omega) hl).mono ?_; rw [if_pos g1]; rintro e w1 ⟨rfl, rfl⟩) | (go_at_call 73; refine (zcn _ _ _ _ _ (by omega) (by omega) ht).mono ?_; rw [if_neg (by omega)]; rintro e w1 ⟨rfl, rfl⟩))
     go_ret
     exact ⟨rfl, zw (Below.refl _ _)⟩
 · rw [if_neg (by omega)]
   go_enter Tryz.func38, Tryz.ntmps38
   go_wp2_with (go_at_call 72; refine (zbt _ _ _ _ _ (by omega) (by omega) hl).mono ?_; rw [if_neg (by omega)]; rintro e w1 ⟨rfl, rfl⟩)
   go_ret
   exact ⟨rfl, zw (Below.refl _ _)⟩
set_option maxHeartbeats 1000000 in
theorem zds (a : Option Addr) (L cap : Nat) (s : Nat -> ByteArray) (T : Nat) (left : Int) (w : World) (hs : TxF T w (.slice a L cap) L s) (h0 : 0 <= left) (h1 : left <= 1048576) (hL : L <= 9223372036854775807) (hX : ∀ j, j < L -> (s j).size <= 9223372036854775807) :
 Calls Tryz.prog 14 #[.slice a L cap, .int .i64 left] w fun e w' => ∃ r : Int, e = .returned (.int .i64 r) /\ (r = -1 \/ 0 <= r /\ r <= left /\ L <= 1048576 /\ ∀ j, j < L -> (s j).size <= 1048576) /\ w = w' := by
 have hL' : (L : Int) <= 9223372036854775807 := by omega
 have HS : Hid (TxF T w (.slice a L cap) L s) := hs
 have HX : Hid (∀ j, j < L -> (s j).size <= 9223372036854775807) := hX
 clear hs hX
 by_cases g1 : (L : Int) <= left
 · have g0 : 0 <= left - (L : Int) := by omega
   go_enter Tryz.func14, Tryz.ntmps14
   go_wp2
   go_loopw [1, 5] (fun q i wr => wr = w /\ ∃ (j : Nat) (z : Int), j <= L /\ i = .int .i64 j /\ q = .int .i64 z /\ 0 <= z /\ z <= left /\ Hid (∀ p, p < j -> (s p).size <= 1048576)) (fun _ i _ => L - (intOf i).toNat)
   case atStart => exact ⟨rfl, 0, _, Nat.zero_le _, rfl, rfl, g0, by omega, fun p hp => absurd hp (Nat.not_lt_zero _)⟩
   case round =>
    obtain ⟨rfl, j, z, hj, rfl, rfl, z0, z1, HP⟩ := hrel
    by_cases hlt : j < L
    · have hlt' : (j : Int) < (L : Int) := by omega
      obtain ⟨b, off, cap', hv, _, lz, hc⟩ := SlF.parts HS.out hlt
      simp only [Value.slice.injEq] at hv
      obtain ⟨rfl, _, rfl⟩ := hv
      have hcj := hc j hlt
      have x1 := HX.out j hlt
      have HXj : Hid ((s j).size <= 1048576 -> ∀ p, p < j + 1 -> (s p).size <= 1048576) := fun h p hp => if e : p = j then e ▸ h else HP.out p (by omega)
      clear hc HS HX HP
      generalize s j = x at hcj x1 HXj
      have x2 : (x.size : Int) <= 9223372036854775807 := by omega
      by_cases g2 : (x.size : Int) <= z
      · have g3 : 0 <= z - (x.size : Int) := by omega
        go_wp2
        go_roundw
        case rel => exact ⟨trivial, j + 1, _, by omega, by go_num, rfl, g3, by omega, HXj.out (by omega)⟩
        case measure => simp [intOf]; omega
      · have g3 : z - (x.size : Int) < 0 := by omega
        go_wp2
        go_ret
        exact ⟨_, rfl, .inl rfl, rfl⟩
    · have hge : (L : Int) <= (j : Int) := by omega
      go_wp2
      go_ret
      exact ⟨_, rfl, .inr ⟨z0, z1, by omega, fun p hp => HP.out p (by omega)⟩, rfl⟩
 · have g0 : left - (L : Int) < 0 := by omega
   go_enter Tryz.func14, Tryz.ntmps14
   go_wp2
   go_ret
   exact ⟨_, rfl, .inl rfl, rfl⟩
end Go.Proofs.YtblcfbhlmdhnpaaGreat
