/- - -/
import Derived.Test.YtaapiedminakcaaGreatCFnJ
namespace Go.Proofs.YtaapiedminakcaaGreat
set_option maxRecDepth 20000
open Go.RowKit
set_option linter.unusedSimpArgs false
set_option linter.unusedVariables false
theorem zof {B Tt : Nat} {w : World} {ar : Option Addr} {bw br cw cr m : Nat} {ws : List Int} {n : Nat} {y : Nat -> Int} (hn : ws.length = n) (hW : RwW w bw ws) (hR : zbm w ar br m y) (hne : 0 < m -> bw ≠ br) (h1 : B <= bw) (h2 : bw < Tt) (h3 : B <= br) (h4 : br < Tt) :
 zb7 B Tt w (.slice (some ⟨bw, 0, none⟩) n cw) (.slice ar m cr) n m (za ws) y := by
 subst hn
 rcases hR with h | ⟨rfl, h⟩
 · exact ⟨bw, bw + 1, bw + 1, bw + 1, h1, h2, by omega, by omega, by omega, Rw.own hW (Nat.le_refl _) (by omega), ⟨_, _, rfl, .inl (by omega)⟩⟩
 · by_cases hm : 0 < m
   · have := hne hm
     exact ⟨bw, bw + 1, br, br + 1, h1, h2, h3, h4, by omega, Rw.own hW (Nat.le_refl _) (by omega), Rw.own h (Nat.le_refl _) (by omega)⟩
   · exact ⟨bw, bw + 1, bw + 1, bw + 1, h1, h2, by omega, by omega, by omega, Rw.own hW (Nat.le_refl _) (by omega), ⟨_, _, rfl, .inl (by omega)⟩⟩
theorem zks {B Tt : Nat} {w : World} {a1 a2 : Option Addr} {c1 c2 n m : Nat} {ws : List Int} {y : Nat -> Int} (hn : ws.length = n) (h0 : 0 < n) (h : zb7 B Tt w (.slice a1 n c1) (.slice a2 m c2) n m (za ws) y) :
 ∃ bw br, a1 = some ⟨bw, 0, none⟩ /\ RwW w bw ws /\ zbm w a2 br m y /\ (0 < m -> bw ≠ br) /\ B <= bw /\ bw < Tt /\ B <= br /\ br < Tt := by
 subst hn
 obtain ⟨u1, t1, u2, t2, h1, h2, h3, h4, h5, h6, h7⟩ := h
 obtain ⟨bw, cap, hv, k1, k2, k3⟩ := h6.rw' h0
 simp only [Value.slice.injEq] at hv
 obtain ⟨rfl, _, rfl⟩ := hv
 by_cases hm : 0 < m
 · obtain ⟨br, cap2, hv2, j1, j2, j3⟩ := h7.rw' (by omega)
   simp only [Value.slice.injEq] at hv2
   obtain ⟨rfl, _, rfl⟩ := hv2
   exact ⟨bw, br, rfl, k3, .inr ⟨rfl, j3⟩, fun _ => by omega, by omega, by omega, by omega, by omega⟩
 · exact ⟨bw, bw, rfl, k3, .inl (by omega), fun g => absurd g hm, by omega, by omega, by omega, by omega⟩
theorem zpn {ws : List Int} {sm toh top : Int} {sn old cp sr : Int} {y : Nat -> Int} {rl : Nat} (hw : zh ws) (hok : zdk ws sm toh top false sn old cp sr y rl) :
 ∃ (S T E S' E' : Nat) (L : List Nat), top = T /\ zc9 ws S T E L /\ zbj y rl L /\ zat sm (1 - toh) S' E' S T /\ (E' <= S \/ T <= S') /\ S' + (T - S) <= E' /\ E' <= ws.length /\ 1 <= S' /\ rl <= 24 /\ 0 < ws.length /\ (1 - toh) * sm + 1 = S' := by
 obtain ⟨s0, s1, hl, t0, t1, hrl, h1, h2, hold⟩ := zec hok.1
 have hc : toh = 0 \/ toh = 1 := by omega
 obtain ⟨T, rfl⟩ := Int.eq_ofNat_of_zero_le (a := top) (by rcases hc with rfl | rfl <;> omega)
 obtain ⟨N, rfl⟩ := Int.eq_ofNat_of_zero_le (a := sm) (by omega)
 rcases hc with rfl | rfl
 · obtain ⟨L, hst, hy⟩ := zmp (S := 1) (T := T) (E := N) hw hok (by omega) rfl (by omega)
   exact ⟨1, T, N, N + 1, 2 * N, L, rfl, hst, hy, ⟨s0, s1, by omega, by omega, by omega, by omega, by omega, by omega⟩, by omega, by omega, by omega, by omega, hrl, by omega, by omega⟩
 · obtain ⟨L, hst, hy⟩ := zmp (S := N + 1) (T := T) (E := 2 * N) hw hok (by omega) rfl (by omega)
   exact ⟨N + 1, T, 2 * N, 1, N, L, rfl, hst, hy, ⟨s0, s1, by omega, by omega, by omega, by omega, by omega, by omega⟩, by omega, by omega, by omega, by omega, hrl, by omega, by omega⟩
theorem zp8 {ws : List Int} {sm toh top : Int} {sn old cp sr : Int} {y : Nat -> Int} {rl : Nat} (hw : zh ws) (hok : zdk ws sm toh top true sn old cp sr y rl) :
 ∃ (S T E F Od sc C : Nat) (L O : List Nat), top = T /\ sn = sc /\ old = Od /\ cp = C /\ Cyc ⟨ws, T, C⟩ S E F Od sc 0 L O /\ zbj y rl L /\ zat sm toh S E F Od /\ C <= T + 8000 /\ E <= 8000 /\ 0 < ws.length := by
 obtain ⟨s0, s1, hl, t0, t1, hrl, h1, h2, hold⟩ := zec hok.1
 obtain ⟨g1, g2, g3, g4, g5⟩ := zdx s0 s1 hl t0 t1 h1 h2
 obtain ⟨a, b⟩ := hold rfl
 obtain ⟨o1, o2⟩ := g5 old a b
 have h3 : ze3 sm toh top old cp = true := by
  have := hok.1
  unfold zcj at this
  simp only [if_true, Bool.and_eq_true] at this
  exact this.2
 have h3' := of_decide_eq_true h3
 unfold zca at h3'
 have hsc0 : 0 <= sn := by 
  obtain ⟨L, O, ht, _⟩ := hok.2
  obtain ⟨_, _, _, r4⟩ := ht.runs rfl
  rcases r4 with g | ⟨g6, g7, g⟩ <;> omega
 have hc : toh = 0 \/ toh = 1 := by omega
 obtain ⟨T, rfl⟩ := Int.eq_ofNat_of_zero_le (a := top) (by rcases hc with rfl | rfl <;> omega)
 obtain ⟨N, rfl⟩ := Int.eq_ofNat_of_zero_le (a := sm) (by omega)
 obtain ⟨Od, rfl⟩ := Int.eq_ofNat_of_zero_le (a := old) (by rcases hc with rfl | rfl <;> omega)
 obtain ⟨C, rfl⟩ := Int.eq_ofNat_of_zero_le (a := cp) (by rcases hc with rfl | rfl <;> omega)
 obtain ⟨sc, rfl⟩ := Int.eq_ofNat_of_zero_le hsc0
 rcases hc with rfl | rfl
 · obtain ⟨L, O, hcy, hy⟩ := zst (S := 1) (T := T) (E := N) (F := N + 1) (sc := sc) (Od := Od) (C := C) hw hok (by omega) rfl (by omega) (by omega) rfl rfl rfl
   exact ⟨1, T, N, N + 1, Od, sc, C, L, O, rfl, rfl, rfl, rfl, hcy, hy, ⟨s0, s1, by omega, by omega, by omega, by omega, by omega, by omega⟩, by omega, by omega, by omega⟩
 · obtain ⟨L, O, hcy, hy⟩ := zst (S := N + 1) (T := T) (E := 2 * N) (F := 1) (sc := sc) (Od := Od) (C := C) hw hok (by omega) rfl (by omega) (by omega) rfl rfl rfl
   exact ⟨N + 1, T, 2 * N, 1, Od, sc, C, L, O, rfl, rfl, rfl, rfl, hcy, hy, ⟨s0, s1, by omega, by omega, by omega, by omega, by omega, by omega⟩, by omega, by omega, by omega⟩
end Go.Proofs.YtaapiedminakcaaGreat
