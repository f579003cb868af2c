/- - -/
import Derived.Test.YtblcfbhlmdhnpaaGreatBMdE
import Derived.Deep.RegionHeld3
namespace Go.Proofs.YtblcfbhlmdhnpaaGreat
set_option maxRecDepth 20000
open Go.RowKit
set_option linter.unusedSimpArgs false
set_option linter.unusedVariables false
def PLr (x : PtD) : Prop := PLe x 9223372036854775807 /\ ∀ k, k < x.cn -> -9223372036854775808 <= x.ca k /\ x.ca k <= 9223372036854775807
def zd (L n : Nat) (sl : Int) (un cn : Nat) (op : Int) : Int × Int :=
 if op = 1 \/ op = 13 \/ op = 14 \/ op = 15 \/ op = 22 \/ op = 24 \/ op = 25 \/ op = 26 then (0, 0)
 else if op = 2 then (0, 1)
 else if op = 3 then (-9223372036854775808, 9223372036854775807)
 else if op = 4 then (0, (n : Int) - 1)
 else if op = 5 \/ op = 6 \/ op = 8 \/ op = 9 \/ op = 11 then (0, sl - 1)
 else if op = 7 \/ op = 10 then (0, (un : Int) - 1)
 else if op = 12 then (0, (L : Int) - 1)
 else if op = 16 then (1, 10)
 else if op = 17 then (1, 3)
 else if op = 18 \/ op = 19 \/ op = 20 \/ op = 21 then (0, (cn : Int) - 1)
 else if op = 23 then (0, 40)
 else if op = 27 then (1, 11)
 else (0, -1)
def zai (sl : Int) (un : Nat) (ub : Nat -> Bool) (ui : Nat -> Int) (k : Nat) : Prop := 0 <= ui k /\ ui k < (if ub k = true then sl else (un : Int))
def zg9 (sl : Int) (un : Nat) (y : PtD) : Prop := ∀ k, k < y.un -> zai sl un y.ub y.ui k
def zf (L n : Nat) (X : Nat -> PtD) (sl : Int) (un cn : Nat) (op a : Int) : Prop :=
 (zd L n sl un cn op).1 <= a /\ a <= (zd L n sl un cn op).2 /\ (op = 12 -> zg9 sl un (X a.toNat))
def zan (x : PtD) : Prop := 0 <= x.pa /\ x.pa <= x.sl /\ x.sl <= 20 /\ x.un <= 12 /\ 1 <= x.cn /\ x.cn <= 4000 /\ x.co (x.cn - 1) = 24
def zat (L n : Nat) (X : Nat -> PtD) (x : PtD) : Prop := ∀ k, k < x.cn -> zf L n X x.sl x.un x.cn (x.co k) (x.ca k)
def zbv (n : Nat) (s : Nat -> ByteArray) : Prop := n <= 255 /\ ∀ j, j < n -> (s j).size <= 160
def za8 (L : Nat) (X : Nat -> PtD) : Prop := 1 <= L /\ L <= 100 /\ (∀ i, i < L -> zan (X i)) /\ (X 0).pa = 0 /\ (X 0).un = 0
def MOk (L : Nat) (X : Nat -> PtD) (n : Nat) (s : Nat -> ByteArray) : Prop := zbv n s /\ za8 L X /\ ∀ i, i < L -> zat L n X (X i)
def zbw (P : Prop) (w : World) (e : Ending) (w' : World) : Prop := ∃ q : Bool, e = .returned (.bool q) /\ (q = true ↔ P) /\ Below w.heap.size w w'
theorem zh {w w' : World} {C b : Nat} {A : Array Value} (h : ∀ i, w.cell? ⟨b, i, none⟩ = A[i]?) (hb : Below C w w') (hC : b < C) : ∀ i, w'.cell? ⟨b, i, none⟩ = A[i]? := fun i => by
 rw [hb.cell (p := ⟨b, i, none⟩) hC]; exact h i
theorem zu {P : Nat -> Prop} {j : Nat} (h : ∀ p, p < j -> P p) (hj : P j) : ∀ p, p < j + 1 -> P p := fun p hp => by
 by_cases e : p = j
 · subst e; exact hj
 · exact h p (by omega)
set_option maxHeartbeats 4000000 in
theorem zfa (a1 : Option Addr) (L c1 : Nat) (a2 : Option Addr) (n c2 : Nat) (pa sl : Int) (au : Option Addr) (un cu : Nat) (ac : Option Addr) (cn cc : Nat) (op : Int) (w : World) (hL : L <= 100) (hn : n <= 255) (hs0 : 0 <= sl) (hs : sl <= 20) (hu : un <= 12) (hc : cn <= 4000) :
 Calls Tryz.prog 84 #[.agg #[.slice a1 L c1, .slice a2 n c2], .agg #[.int .i64 pa, .int .i64 sl, .slice au un cu, .slice ac cn cc], .int .i64 op] w fun e w' => e = .returned (.tuple #[.int .i64 (zd L n sl un cn op).1, .int .i64 (zd L n sl un cn op).2]) /\ Below w.heap.size w w' := by
 have B2 : Below w.heap.size w ((w.alloc (.cells #[.slice a1 L c1, .slice a2 n c2] 29)).alloc (.cells #[.int .i64 pa, .int .i64 sl, .slice au un cu, .slice ac cn cc] 58)) := ((Below.refl _ _).alloc (Nat.le_refl _) _).alloc (by simp) _
 have hL' : (L : Int) <= 100 := by omega
 have hn' : (n : Int) <= 255 := by omega
 have hu' : (un : Int) <= 12 := by omega
 have hc' : (cn : Int) <= 4000 := by omega
 by_cases h1 : op = 1
 · subst h1
   go_enter Tryz.func84, Tryz.ntmps84
   go_wp2
   go_ret2
   exact ⟨by simp [zd], B2⟩
 by_cases h2 : op = 2
 · subst h2
   go_enter Tryz.func84, Tryz.ntmps84
   go_wp2
   go_ret2
   exact ⟨by simp [zd], B2⟩
 by_cases h3 : op = 3
 · subst h3
   go_enter Tryz.func84, Tryz.ntmps84
   go_wp2
   go_ret2
   exact ⟨by simp [zd], B2⟩
 by_cases h4 : op = 4
 · subst h4
   go_enter Tryz.func84, Tryz.ntmps84
   go_wp2
   go_quiet (fail)
   go_wp2
   go_ret2
   exact ⟨by simp [zd], below_drewN B2 _⟩
 by_cases h5 : op = 5
 · subst h5
   go_enter Tryz.func84, Tryz.ntmps84
   go_wp2
   go_quiet (fail)
   go_wp2
   go_ret2
   exact ⟨by simp [zd], below_drewN B2 _⟩
 by_cases h6 : op = 6
 · subst h6
   go_enter Tryz.func84, Tryz.ntmps84
   go_wp2
   go_quiet (fail)
   go_wp2
   go_ret2
   exact ⟨by simp [zd], below_drewN B2 _⟩
 by_cases h7 : op = 7
 · subst h7
   go_enter Tryz.func84, Tryz.ntmps84
   go_wp2
   go_quiet (fail)
   go_wp2
   go_ret2
   exact ⟨by simp [zd], below_drewN B2 _⟩
 by_cases h8 : op = 8
 · subst h8
   go_enter Tryz.func84, Tryz.ntmps84
   go_wp2
   go_quiet (fail)
   go_wp2
   go_ret2
   exact ⟨by simp [zd], below_drewN B2 _⟩
 by_cases h9 : op = 9
 · subst h9
   go_enter Tryz.func84, Tryz.ntmps84
   go_wp2
   go_quiet (fail)
   go_wp2
   go_ret2
   exact ⟨by simp [zd], below_drewN B2 _⟩
 by_cases h10 : op = 10
 · subst h10
   go_enter Tryz.func84, Tryz.ntmps84
   go_wp2
   go_quiet (fail)
   go_wp2
   go_ret2
   exact ⟨by simp [zd], below_drewN B2 _⟩
 by_cases h11 : op = 11
 · subst h11
   go_enter Tryz.func84, Tryz.ntmps84
   go_wp2
   go_quiet (fail)
   go_wp2
   go_ret2
   exact ⟨by simp [zd], below_drewN B2 _⟩
 by_cases h12 : op = 12
 · subst h12
   go_enter Tryz.func84, Tryz.ntmps84
   go_wp2
   go_quiet (fail)
   go_wp2
   go_ret2
   exact ⟨by simp [zd], below_drewN B2 _⟩
 by_cases h13 : op = 13
 · subst h13
   go_enter Tryz.func84, Tryz.ntmps84
   go_wp2
   go_ret2
   exact ⟨by simp [zd], B2⟩
 by_cases h14 : op = 14
 · subst h14
   go_enter Tryz.func84, Tryz.ntmps84
   go_wp2
   go_ret2
   exact ⟨by simp [zd], B2⟩
 by_cases h15 : op = 15
 · subst h15
   go_enter Tryz.func84, Tryz.ntmps84
   go_wp2
   go_ret2
   exact ⟨by simp [zd], B2⟩
 by_cases h16 : op = 16
 · subst h16
   go_enter Tryz.func84, Tryz.ntmps84
   go_wp2
   go_ret2
   exact ⟨by simp [zd], B2⟩
 by_cases h17 : op = 17
 · subst h17
   go_enter Tryz.func84, Tryz.ntmps84
   go_wp2
   go_ret2
   exact ⟨by simp [zd], B2⟩
 by_cases h18 : op = 18
 · subst h18
   go_enter Tryz.func84, Tryz.ntmps84
   go_wp2
   go_quiet (fail)
   go_wp2
   go_ret2
   exact ⟨by simp [zd], below_drewN B2 _⟩
 by_cases h19 : op = 19
 · subst h19
   go_enter Tryz.func84, Tryz.ntmps84
   go_wp2
   go_quiet (fail)
   go_wp2
   go_ret2
   exact ⟨by simp [zd], below_drewN B2 _⟩
 by_cases h20 : op = 20
 · subst h20
   go_enter Tryz.func84, Tryz.ntmps84
   go_wp2
   go_quiet (fail)
   go_wp2
   go_ret2
   exact ⟨by simp [zd], below_drewN B2 _⟩
 by_cases h21 : op = 21
 · subst h21
   go_enter Tryz.func84, Tryz.ntmps84
   go_wp2
   go_quiet (fail)
   go_wp2
   go_ret2
   exact ⟨by simp [zd], below_drewN B2 _⟩
 by_cases h22 : op = 22
 · subst h22
   go_enter Tryz.func84, Tryz.ntmps84
   go_wp2
   go_ret2
   exact ⟨by simp [zd], B2⟩
 by_cases h23 : op = 23
 · subst h23
   go_enter Tryz.func84, Tryz.ntmps84
   go_wp2
   go_ret2
   exact ⟨by simp [zd], B2⟩
 by_cases h24 : op = 24
 · subst h24
   go_enter Tryz.func84, Tryz.ntmps84
   go_wp2
   go_ret2
   exact ⟨by simp [zd], B2⟩
 by_cases h25 : op = 25
 · subst h25
   go_enter Tryz.func84, Tryz.ntmps84
   go_wp2
   go_ret2
   exact ⟨by simp [zd], B2⟩
 by_cases h26 : op = 26
 · subst h26
   go_enter Tryz.func84, Tryz.ntmps84
   go_wp2
   go_ret2
   exact ⟨by simp [zd], B2⟩
 by_cases h27 : op = 27
 · subst h27
   go_enter Tryz.func84, Tryz.ntmps84
   go_wp2
   go_ret2
   exact ⟨by simp [zd], B2⟩
 have e1 : (op == 1) = false := by simp [h1]
 have e2 : (op == 2) = false := by simp [h2]
 have e3 : (op == 3) = false := by simp [h3]
 have e4 : (op == 4) = false := by simp [h4]
 have e5 : (op == 5) = false := by simp [h5]
 have e6 : (op == 6) = false := by simp [h6]
 have e7 : (op == 7) = false := by simp [h7]
 have e8 : (op == 8) = false := by simp [h8]
 have e9 : (op == 9) = false := by simp [h9]
 have e10 : (op == 10) = false := by simp [h10]
 have e11 : (op == 11) = false := by simp [h11]
 have e12 : (op == 12) = false := by simp [h12]
 have e13 : (op == 13) = false := by simp [h13]
 have e14 : (op == 14) = false := by simp [h14]
 have e15 : (op == 15) = false := by simp [h15]
 have e16 : (op == 16) = false := by simp [h16]
 have e17 : (op == 17) = false := by simp [h17]
 have e18 : (op == 18) = false := by simp [h18]
 have e19 : (op == 19) = false := by simp [h19]
 have e20 : (op == 20) = false := by simp [h20]
 have e21 : (op == 21) = false := by simp [h21]
 have e22 : (op == 22) = false := by simp [h22]
 have e23 : (op == 23) = false := by simp [h23]
 have e24 : (op == 24) = false := by simp [h24]
 have e25 : (op == 25) = false := by simp [h25]
 have e26 : (op == 26) = false := by simp [h26]
 have e27 : (op == 27) = false := by simp [h27]
 go_enter Tryz.func84, Tryz.ntmps84
 go_wp2
 go_ret2
 exact ⟨by simp [zd, *], B2⟩
set_option maxHeartbeats 1000000 in
theorem zdy (pa sl : Int) (au : Option Addr) (un cu : Nat) (ac : Option Addr) (cn cc : Nat) (co ca : Nat -> Int) (T : Nat) (w : World) (hs2 : SlF T w (.slice ac cn cc) cn (2 * cn) (inF co ca)) (hT : T <= w.heap.size) (hu : un <= 1048576) (hc : cn <= 1048576) (ub : Nat -> Bool) (ui : Nat -> Int) :
 Calls Tryz.prog 83 #[.agg #[.int .i64 pa, .int .i64 sl, .slice au un cu, .slice ac cn cc]] w fun e w' => zbw (zan ⟨pa, sl, un, ub, ui, cn, co, ca⟩) w e w' := by
 have B1 : Below w.heap.size w (w.alloc (.cells #[.int .i64 pa, .int .i64 sl, .slice au un cu, .slice ac cn cc] 58)) := (Below.refl _ _).alloc (Nat.le_refl _) _
 have hu' : (un : Int) <= 1048576 := by omega
 have hc' : (cn : Int) <= 1048576 := by omega
 by_cases g0 : 0 <= pa
 rotate_left
 · go_enter Tryz.func83, Tryz.ntmps83
   go_wp2
   go_ret
   exact ⟨false, rfl, ⟨fun h => (by cases h), fun h => (by have := h.1; simp only at this; omega)⟩, B1⟩
 by_cases g1 : pa <= sl
 rotate_left
 · have g1' : sl < pa := by omega
   go_enter Tryz.func83, Tryz.ntmps83
   go_wp2
   go_ret
   exact ⟨false, rfl, ⟨fun h => (by cases h), fun h => (by have := h.2.1; simp only at this; omega)⟩, B1⟩
 by_cases g2 : sl <= 20
 rotate_left
 · have g2' : 20 < sl := by omega
   go_enter Tryz.func83, Tryz.ntmps83
   go_wp2
   go_ret
   exact ⟨false, rfl, ⟨fun h => (by cases h), fun h => (by have := h.2.2.1; simp only at this; omega)⟩, B1⟩
 by_cases g3 : un <= 12
 rotate_left
 · have g3' : 12 < (un : Int) := by omega
   go_enter Tryz.func83, Tryz.ntmps83
   go_wp2
   go_ret
   exact ⟨false, rfl, ⟨fun h => (by cases h), fun h => absurd h.2.2.2.1 g3⟩, B1⟩
 have g3' : (un : Int) <= 12 := by omega
 by_cases g4 : 1 <= cn
 rotate_left
 · have g4' : (cn : Int) < 1 := by omega
   go_enter Tryz.func83, Tryz.ntmps83
   go_wp2
   go_ret
   exact ⟨false, rfl, ⟨fun h => (by cases h), fun h => absurd h.2.2.2.2.1 g4⟩, B1⟩
 have g4' : 1 <= (cn : Int) := by omega
 by_cases g5 : cn <= 4000
 rotate_left
 · have g5' : 4000 < (cn : Int) := by omega
   go_enter Tryz.func83, Tryz.ntmps83
   go_wp2
   go_ret
   exact ⟨false, rfl, ⟨fun h => (by cases h), fun h => absurd h.2.2.2.2.2.1 g5⟩, B1⟩
 have g5' : (cn : Int) <= 4000 := by omega
 obtain ⟨b, off, cap', hv, lb, lb', hc2⟩ := SlF.parts (hs2.below B1 hT) (k := 0) (by omega)
 simp only [Value.slice.injEq] at hv
 obtain ⟨rfl, _, rfl⟩ := hv
 have hx : (w.alloc (.cells #[.int .i64 pa, .int .i64 sl, .slice au un cu, .slice (some ⟨b, off, none⟩) cn cc] 58)).cell? ⟨b, off + (cn - 1) * 2, none⟩ = some (.int .i64 (co (cn - 1))) := by rw [hc2 ((cn - 1) * 2) (by omega), za5]
 have e1 : ((cn : Int) - 1).toNat = cn - 1 := by omega
 obtain ⟨z, hz⟩ : ∃ z, co (cn - 1) = z := ⟨_, rfl⟩
 rw [hz] at hx
 clear hs2 hc2
 by_cases g6 : z = 24
 · subst g6
   go_enter Tryz.func83, Tryz.ntmps83
   go_wp2
   go_ret
   exact ⟨true, rfl, ⟨fun _ => ⟨g0, g1, g2, g3, g4, g5, hz⟩, fun _ => rfl⟩, B1⟩
 · have g6' : (z == 24) = false := by simp [g6]
   go_enter Tryz.func83, Tryz.ntmps83
   go_wp2
   go_ret
   exact ⟨false, rfl, ⟨fun h => (by cases h), fun h => absurd (hz ▸ h.2.2.2.2.2.2) g6⟩, B1⟩
theorem zfu (a1 : Option Addr) (L c1 : Nat) (a2 : Option Addr) (n c2 : Nat) (s : Nat -> ByteArray) (T : Nat) (w : World) (hs : TxF T w (.slice a2 n c2) n s) (hT : T <= w.heap.size) (hn : n <= 1048576) (hsz : ∀ j, j < n -> (s j).size <= 9223372036854775807) :
 Calls Tryz.prog 52 #[.agg #[.slice a1 L c1, .slice a2 n c2]] w fun e w' => zbw (zbv n s) w e w' := by
 have HS : Hid (TxF T w (.slice a2 n c2) n s) := hs
 have HZ : Hid (∀ j, j < n -> (s j).size <= 9223372036854775807) := hsz
 have hn' : (n : Int) <= 1048576 := by omega
 clear hs hsz
 go_enter Tryz.func52, Tryz.ntmps52
 go_wp2
 go_loopw [8] (fun i wr => ∃ k : Nat, k <= n /\ i = .int .i64 k /\ Hid (∀ p, p < k -> (s p).size <= 160) /\ Below w.heap.size w wr /\ (∀ i, wr.cell? ⟨w.heap.size, i, none⟩ = (#[.slice a1 L c1, .slice a2 n c2] : Array Value)[i]?)) (fun i _ => n - (intOf i).toNat)
 case atStart => exact ⟨0, Nat.zero_le _, rfl, fun p hp => by omega, (Below.refl _ _).alloc (Nat.le_refl _) _, fun i => by simp [go_sem]⟩
 case round =>
  obtain ⟨k, hk, rfl, HP, hF, K1⟩ := hrel
  by_cases hlt : k < n
  · have hlt' : (k : Int) < (n : Int) := by omega
    obtain ⟨br, offr, cap', hv, _, lbr, hcr⟩ := SlF.parts (HS.out.below hF hT) (k := 0) (by omega)
    simp only [Value.slice.injEq] at hv
    obtain ⟨rfl, _, rfl⟩ := hv
    have hc1 : wr.cell? ⟨br, offr + k, none⟩ = some (.string (s k)) := hcr k hlt
    have hz : ((s k).size : Int) <= 9223372036854775807 := by have := HZ.out k hlt; omega
    clear hcr HS
    by_cases g : (s k).size <= 160
    · have HV : Hid (∀ p, p < k + 1 -> (s p).size <= 160) := zu HP.out g
      have g' : ((s k).size : Int) <= 160 := by omega
      clear g
      generalize s k = tx at hc1 g' hz
      go_wp2
      go_roundw
      case rel => exact ⟨k + 1, by omega, by go_num, HV, hF, K1⟩
      case measure => simp [intOf]; omega
    · have HV : Hid (¬ zbv n s) := fun h => g (h.2 k hlt)
      have g' : 160 < ((s k).size : Int) := by omega
      clear g
      generalize s k = tx at hc1 g' hz
      go_wp2
      go_ret
      exact ⟨false, rfl, ⟨fun h => (by cases h), fun h => absurd h HV.out⟩, hF⟩
  · have hge : (n : Int) <= (k : Int) := by omega
    go_wp2
    go_ret
    exact ⟨_, rfl, ⟨fun h => ⟨by have := of_decide_eq_true h; omega, fun j hj => HP.out j (by omega)⟩, fun h => decide_eq_true (by have := h.1; omega)⟩, hF⟩
end Go.Proofs.YtblcfbhlmdhnpaaGreat
