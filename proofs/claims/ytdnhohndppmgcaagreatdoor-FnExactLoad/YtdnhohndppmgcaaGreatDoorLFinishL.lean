/- - -/
import Derived.Test.YtdnhohndppmgcaaGreatDoorLFwJ
namespace Go.Proofs.YtdnhohndppmgcaaGreatDoor
set_option maxRecDepth 20000
open Go.RowKit
set_option linter.unusedSimpArgs false
set_option linter.unusedVariables false
theorem ze8 {W w : World} {X : List Nat} {k : Nat} {c0 c1 c2 c3 c4 c5 c6 c7 c8 c9 : Value} (h : Kp X w W) (hk : w.heap.size <= k) :
 Kp X w ((((((((((W.setCell ⟨k, 0, none⟩ c0).setCell ⟨k, 1, none⟩ c1).setCell ⟨k, 2, none⟩ c2).setCell ⟨k, 3, none⟩ c3).setCell ⟨k, 4, none⟩ c4).setCell ⟨k, 5, none⟩ c5).setCell ⟨k, 6, none⟩ c6).setCell ⟨k, 7, none⟩ c7).setCell ⟨k, 8, none⟩ c8).setCell ⟨k, 9, none⟩ c9) :=
 (((((((((h.setCell (p := ⟨k, 0, none⟩) (.inr hk) _).setCell (p := ⟨k, 1, none⟩) (.inr hk) _).setCell (p := ⟨k, 2, none⟩) (.inr hk) _).setCell (p := ⟨k, 3, none⟩) (.inr hk) _).setCell (p := ⟨k, 4, none⟩) (.inr hk) _).setCell (p := ⟨k, 5, none⟩) (.inr hk) _).setCell (p := ⟨k, 6, none⟩) (.inr hk) _).setCell (p := ⟨k, 7, none⟩) (.inr hk) _).setCell (p := ⟨k, 8, none⟩) (.inr hk) _).setCell (p := ⟨k, 9, none⟩) (.inr hk) _
theorem za3 {W : World} {k x : Nat} {c0 c1 c2 c3 c4 c5 c6 c7 c8 c9 : Value} (hk : x ≠ k) :
 ((((((((((W.setCell ⟨k, 0, none⟩ c0).setCell ⟨k, 1, none⟩ c1).setCell ⟨k, 2, none⟩ c2).setCell ⟨k, 3, none⟩ c3).setCell ⟨k, 4, none⟩ c4).setCell ⟨k, 5, none⟩ c5).setCell ⟨k, 6, none⟩ c6).setCell ⟨k, 7, none⟩ c7).setCell ⟨k, 8, none⟩ c8).setCell ⟨k, 9, none⟩ c9).heap[x]? = W.heap[x]? :=
 (Below.heap_setCell _ _ _ x hk).trans ((Below.heap_setCell _ _ _ x hk).trans ((Below.heap_setCell _ _ _ x hk).trans ((Below.heap_setCell _ _ _ x hk).trans ((Below.heap_setCell _ _ _ x hk).trans ((Below.heap_setCell _ _ _ x hk).trans ((Below.heap_setCell _ _ _ x hk).trans ((Below.heap_setCell _ _ _ x hk).trans ((Below.heap_setCell _ _ _ x hk).trans (Below.heap_setCell _ _ _ x hk)))))))))
theorem zfe {W : World} {k : Nat} {t : TypeId} {f : Nat -> Value} {A : Array Value} {c0 c1 c2 c3 c4 c5 c6 c7 c8 c9 : Value} (h : W.rowIs k t 10 f) (e0 : A.getD 0 (.bool false) = c0) (e1 : A.getD 1 (.bool false) = c1) (e2 : A.getD 2 (.bool false) = c2) (e3 : A.getD 3 (.bool false) = c3) (e4 : A.getD 4 (.bool false) = c4) (e5 : A.getD 5 (.bool false) = c5) (e6 : A.getD 6 (.bool false) = c6) (e7 : A.getD 7 (.bool false) = c7) (e8 : A.getD 8 (.bool false) = c8) (e9 : A.getD 9 (.bool false) = c9) :
 ((((((((((W.setCell ⟨k, 0, none⟩ c0).setCell ⟨k, 1, none⟩ c1).setCell ⟨k, 2, none⟩ c2).setCell ⟨k, 3, none⟩ c3).setCell ⟨k, 4, none⟩ c4).setCell ⟨k, 5, none⟩ c5).setCell ⟨k, 6, none⟩ c6).setCell ⟨k, 7, none⟩ c7).setCell ⟨k, 8, none⟩ c8).setCell ⟨k, 9, none⟩ c9).rowIs k t 10 (fun i => A.getD i (.bool false)) := by
 refine ((((((((((h.set 0 c0).set 1 c1).set 2 c2).set 3 c3).set 4 c4).set 5 c5).set 6 c6).set 7 c7).set 8 c8).set 9 c9).congr fun i hi => ?_
 have hi2 : i = 0 \/ i = 1 \/ i = 2 \/ i = 3 \/ i = 4 \/ i = 5 \/ i = 6 \/ i = 7 \/ i = 8 \/ i = 9 := by omega
 subst e0 e1 e2 e3 e4 e5 e6 e7 e8 e9
 rcases hi2 with rfl | rfl | rfl | rfl | rfl | rfl | rfl | rfl | rfl | rfl <;> rfl
theorem zfz {W : World} {k : Nat} {t : TypeId} {f : Nat -> Value} {A : Array Value} {c0 c1 : Value} (h : W.rowIs k t 2 f) (e0 : A.getD 0 (.bool false) = c0) (e1 : A.getD 1 (.bool false) = c1) :
 ((W.setCell ⟨k, 0, none⟩ c0).setCell ⟨k, 1, none⟩ c1).rowIs k t 2 (fun i => A.getD i (.bool false)) := by
 refine ((h.set 0 c0).set 1 c1).congr fun i hi => ?_
 have hi2 : i = 0 \/ i = 1 := by omega
 subst e0 e1
 rcases hi2 with rfl | rfl <;> rfl
theorem zd3 {W : World} {A : Array Value} {t : TypeId} {n : Nat} (hA : A.size = n) : (W.alloc (.cells A t)).rowIs W.heap.size t n (fun i => A.getD i (.bool false)) :=
 ⟨A, Go.Deep.blk_alloc_new _ _, hA, fun i hi => by simp [Array.getD, show i < A.size by omega]⟩
def zdy (w : World) (ar : Option Addr) (br n : Nat) (y : Nat -> Int) : Prop := n = 0 \/ (ar = some ⟨br, 0, none⟩ /\ RwR w br n y)
theorem zn0 {B Tt : Nat} {w : World} {ar : Option Addr} {bw br cw cr m : Nat} {ws : List Int} {n : Nat} {y : Nat -> Int} (hn : ws.length = n) (hW : RwW w bw ws) (hR : zdy w ar br m y) (hne : 0 < m -> bw ≠ br) (h1 : B <= bw) (h2 : bw < Tt) (h3 : B <= br) (h4 : br < Tt) :
 zak B Tt w (.slice (some ⟨bw, 0, none⟩) n cw) (.slice ar m cr) n m (za ws) y := by
 subst hn
 rcases hR with h | ⟨rfl, h⟩
 · exact ⟨bw, bw + 1, bw + 1, bw + 1, h1, h2, by omega, by omega, by omega, Rw.own hW (Nat.le_refl _) (by omega), ⟨_, _, rfl, .inl (by omega)⟩⟩
 · by_cases hm : 0 < m
   · have := hne hm
     exact ⟨bw, bw + 1, br, br + 1, h1, h2, h3, h4, by omega, Rw.own hW (Nat.le_refl _) (by omega), Rw.own h (Nat.le_refl _) (by omega)⟩
   · exact ⟨bw, bw + 1, bw + 1, bw + 1, h1, h2, by omega, by omega, by omega, Rw.own hW (Nat.le_refl _) (by omega), ⟨_, _, rfl, .inl (by omega)⟩⟩
theorem zhh {B Tt : Nat} {w : World} {a1 a2 : Option Addr} {c1 c2 n m : Nat} {ws : List Int} {y : Nat -> Int} (hn : ws.length = n) (h0 : 0 < n) (h : zak B Tt w (.slice a1 n c1) (.slice a2 m c2) n m (za ws) y) :
 ∃ bw br, a1 = some ⟨bw, 0, none⟩ /\ RwW w bw ws /\ zdy w a2 br m y /\ (0 < m -> bw ≠ br) /\ B <= bw /\ bw < Tt /\ B <= br /\ br < Tt := by
 subst hn
 obtain ⟨u1, t1, u2, t2, h1, h2, h3, h4, h5, h6, h7⟩ := h
 obtain ⟨bw, cap, hv, k1, k2, k3⟩ := h6.rw' h0
 simp only [Value.slice.injEq] at hv
 obtain ⟨rfl, _, rfl⟩ := hv
 by_cases hm : 0 < m
 · obtain ⟨br, cap2, hv2, j1, j2, j3⟩ := h7.rw' (by omega)
   simp only [Value.slice.injEq] at hv2
   obtain ⟨rfl, _, rfl⟩ := hv2
   exact ⟨bw, br, rfl, k3, .inr ⟨rfl, j3⟩, fun _ => by omega, by omega, by omega, by omega, by omega⟩
 · exact ⟨bw, bw, rfl, k3, .inl (by omega), fun g => absurd g hm, by omega, by omega, by omega, by omega⟩
end Go.Proofs.YtdnhohndppmgcaaGreatDoor
