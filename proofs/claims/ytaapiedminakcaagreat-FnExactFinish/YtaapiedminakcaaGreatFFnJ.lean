/- - -/
import Derived.Test.YtaapiedminakcaaGreatFFwJ
namespace Go.Proofs.YtaapiedminakcaaGreat
set_option maxRecDepth 20000
open Go.RowKit
set_option linter.unusedSimpArgs false
set_option linter.unusedVariables false
theorem zr6 {W w : World} {X : List Nat} {k : Nat} {c0 c1 c2 c3 c4 c5 c6 c7 c8 c9 : Value} (h : Kp X w W) (hk : w.heap.size <= k) :
 Kp X w ((((((((((W.setCell ⟨k, 0, none⟩ c0).setCell ⟨k, 1, none⟩ c1).setCell ⟨k, 2, none⟩ c2).setCell ⟨k, 3, none⟩ c3).setCell ⟨k, 4, none⟩ c4).setCell ⟨k, 5, none⟩ c5).setCell ⟨k, 6, none⟩ c6).setCell ⟨k, 7, none⟩ c7).setCell ⟨k, 8, none⟩ c8).setCell ⟨k, 9, none⟩ c9) :=
 (((((((((h.setCell (p := ⟨k, 0, none⟩) (.inr hk) _).setCell (p := ⟨k, 1, none⟩) (.inr hk) _).setCell (p := ⟨k, 2, none⟩) (.inr hk) _).setCell (p := ⟨k, 3, none⟩) (.inr hk) _).setCell (p := ⟨k, 4, none⟩) (.inr hk) _).setCell (p := ⟨k, 5, none⟩) (.inr hk) _).setCell (p := ⟨k, 6, none⟩) (.inr hk) _).setCell (p := ⟨k, 7, none⟩) (.inr hk) _).setCell (p := ⟨k, 8, none⟩) (.inr hk) _).setCell (p := ⟨k, 9, none⟩) (.inr hk) _
theorem zhj {W w : World} {X : List Nat} {k : Nat} {c0 c1 c2 c3 c4 c5 c6 c7 c8 c9 : Value} (h : Kp X w W) (hk : k ∈ X) :
 Kp X w ((((((((((W.setCell ⟨k, 0, none⟩ c0).setCell ⟨k, 1, none⟩ c1).setCell ⟨k, 2, none⟩ c2).setCell ⟨k, 3, none⟩ c3).setCell ⟨k, 4, none⟩ c4).setCell ⟨k, 5, none⟩ c5).setCell ⟨k, 6, none⟩ c6).setCell ⟨k, 7, none⟩ c7).setCell ⟨k, 8, none⟩ c8).setCell ⟨k, 9, none⟩ c9) :=
 (((((((((h.setCell (p := ⟨k, 0, none⟩) (.inl hk) _).setCell (p := ⟨k, 1, none⟩) (.inl hk) _).setCell (p := ⟨k, 2, none⟩) (.inl hk) _).setCell (p := ⟨k, 3, none⟩) (.inl hk) _).setCell (p := ⟨k, 4, none⟩) (.inl hk) _).setCell (p := ⟨k, 5, none⟩) (.inl hk) _).setCell (p := ⟨k, 6, none⟩) (.inl hk) _).setCell (p := ⟨k, 7, none⟩) (.inl hk) _).setCell (p := ⟨k, 8, none⟩) (.inl hk) _).setCell (p := ⟨k, 9, none⟩) (.inl hk) _
theorem zc0 {W : World} {k x : Nat} {c0 c1 c2 c3 c4 c5 c6 c7 c8 c9 : Value} (hk : x ≠ k) :
 ((((((((((W.setCell ⟨k, 0, none⟩ c0).setCell ⟨k, 1, none⟩ c1).setCell ⟨k, 2, none⟩ c2).setCell ⟨k, 3, none⟩ c3).setCell ⟨k, 4, none⟩ c4).setCell ⟨k, 5, none⟩ c5).setCell ⟨k, 6, none⟩ c6).setCell ⟨k, 7, none⟩ c7).setCell ⟨k, 8, none⟩ c8).setCell ⟨k, 9, none⟩ c9).heap[x]? = W.heap[x]? :=
 (Below.heap_setCell _ _ _ x hk).trans ((Below.heap_setCell _ _ _ x hk).trans ((Below.heap_setCell _ _ _ x hk).trans ((Below.heap_setCell _ _ _ x hk).trans ((Below.heap_setCell _ _ _ x hk).trans ((Below.heap_setCell _ _ _ x hk).trans ((Below.heap_setCell _ _ _ x hk).trans ((Below.heap_setCell _ _ _ x hk).trans ((Below.heap_setCell _ _ _ x hk).trans (Below.heap_setCell _ _ _ x hk)))))))))
theorem zkf {W : World} {k : Nat} {t : TypeId} {f : Nat -> Value} {A : Array Value} {c0 c1 c2 c3 c4 c5 c6 c7 c8 c9 : Value} (h : W.rowIs k t 10 f) (e0 : A.getD 0 (.bool false) = c0) (e1 : A.getD 1 (.bool false) = c1) (e2 : A.getD 2 (.bool false) = c2) (e3 : A.getD 3 (.bool false) = c3) (e4 : A.getD 4 (.bool false) = c4) (e5 : A.getD 5 (.bool false) = c5) (e6 : A.getD 6 (.bool false) = c6) (e7 : A.getD 7 (.bool false) = c7) (e8 : A.getD 8 (.bool false) = c8) (e9 : A.getD 9 (.bool false) = c9) :
 ((((((((((W.setCell ⟨k, 0, none⟩ c0).setCell ⟨k, 1, none⟩ c1).setCell ⟨k, 2, none⟩ c2).setCell ⟨k, 3, none⟩ c3).setCell ⟨k, 4, none⟩ c4).setCell ⟨k, 5, none⟩ c5).setCell ⟨k, 6, none⟩ c6).setCell ⟨k, 7, none⟩ c7).setCell ⟨k, 8, none⟩ c8).setCell ⟨k, 9, none⟩ c9).rowIs k t 10 (fun i => A.getD i (.bool false)) := by
 refine ((((((((((h.set 0 c0).set 1 c1).set 2 c2).set 3 c3).set 4 c4).set 5 c5).set 6 c6).set 7 c7).set 8 c8).set 9 c9).congr fun i hi => ?_
 have hi2 : i = 0 \/ i = 1 \/ i = 2 \/ i = 3 \/ i = 4 \/ i = 5 \/ i = 6 \/ i = 7 \/ i = 8 \/ i = 9 := by omega
 subst e0 e1 e2 e3 e4 e5 e6 e7 e8 e9
 rcases hi2 with rfl | rfl | rfl | rfl | rfl | rfl | rfl | rfl | rfl | rfl <;> rfl
theorem zkg {W : World} {A : Array Value} {t : TypeId} {n : Nat} (hA : A.size = n) : (W.alloc (.cells A t)).rowIs W.heap.size t n (fun i => A.getD i (.bool false)) :=
 ⟨A, Go.Deep.blk_alloc_new _ _, hA, fun i hi => by simp [Array.getD, show i < A.size by omega]⟩
set_option maxHeartbeats 1000000 in
theorem zjc (bw cw : Nat) (ws : List Int) (sm toh sn old cp sr : Int) (ar : Option Addr) (cr : Nat) (rs : List (Int × Int)) (w : World) :
 Calls Tryz.prog 148 #[.agg #[.slice (some ⟨bw, 0, none⟩) ws.length cw, .int .i64 sm, .int .i64 toh, .int .i64 sn, .bool true, .int .i64 sn, .int .i64 old, .int .i64 cp, .int .i64 sr, .slice ar rs.length cr]] w fun e w' => e = .returned (.agg #[.slice (some ⟨bw, 0, none⟩) ws.length cw, .int .i64 sm, .int .i64 toh, .int .i64 sn, .bool false, .int .i64 0, .int .i64 0, .int .i64 0, .int .i64 sr, .slice ar rs.length cr]) /\ Below w.heap.size w w' := by
 go_enter Tryz.func148, Tryz.ntmps148
 go_wp2
 exact bodyPost_ret (v := .agg #[.slice (some ⟨bw, 0, none⟩) ws.length cw, .int .i64 sm, .int .i64 toh, .int .i64 sn, .bool false, .int .i64 0, .int .i64 0, .int .i64 0, .int .i64 sr, .slice ar rs.length cr]) (by simp [results, Tryz.results148, go_sem]) rfl ⟨rfl, ((Below.refl _ _).alloc (Nat.le_refl _) _).alloc (by simp) _⟩
set_option maxHeartbeats 1000000 in
theorem zhk (bw cw : Nat) (ws : List Int) (sm toh top : Int) (cyc : Bool) (sn old cp sr : Int) (ar : Option Addr) (cr : Nat) (rs : List (Int × Int)) (w : World) (h : ¬ (cyc = true /\ sn = top)) :
 Calls Tryz.prog 148 #[.agg #[.slice (some ⟨bw, 0, none⟩) ws.length cw, .int .i64 sm, .int .i64 toh, .int .i64 top, .bool cyc, .int .i64 sn, .int .i64 old, .int .i64 cp, .int .i64 sr, .slice ar rs.length cr]] w fun e w' => e = .returned (.agg #[.slice (some ⟨bw, 0, none⟩) ws.length cw, .int .i64 sm, .int .i64 toh, .int .i64 top, .bool cyc, .int .i64 sn, .int .i64 old, .int .i64 cp, .int .i64 sr, .slice ar rs.length cr]) /\ Below w.heap.size w w' := by
 cases cyc with
 | false =>
   go_enter Tryz.func148, Tryz.ntmps148
   go_wp2
   exact bodyPost_ret (v := .agg #[.slice (some ⟨bw, 0, none⟩) ws.length cw, .int .i64 sm, .int .i64 toh, .int .i64 top, .bool false, .int .i64 sn, .int .i64 old, .int .i64 cp, .int .i64 sr, .slice ar rs.length cr]) (by simp [results, Tryz.results148, go_sem]) rfl ⟨rfl, ((Below.refl _ _).alloc (Nat.le_refl _) _).alloc (by simp) _⟩
 | true =>
   have hne : (sn == top) = false := beq_eq_false_iff_ne.2 (fun g => h ⟨rfl, g⟩)
   clear h
   go_enter Tryz.func148, Tryz.ntmps148
   go_wp2
   exact bodyPost_ret (v := .agg #[.slice (some ⟨bw, 0, none⟩) ws.length cw, .int .i64 sm, .int .i64 toh, .int .i64 top, .bool true, .int .i64 sn, .int .i64 old, .int .i64 cp, .int .i64 sr, .slice ar rs.length cr]) (by simp [results, Tryz.results148, go_sem]) rfl ⟨rfl, ((Below.refl _ _).alloc (Nat.le_refl _) _).alloc (by simp) _⟩
def zkh (w : World) (ar : Option Addr) (br n : Nat) (y : Nat -> Int) : Prop := n = 0 \/ (ar = some ⟨br, 0, none⟩ /\ RwR w br n y)
set_option maxHeartbeats 1000000 in
theorem zf4 (ba bw cw : Nat) (ws : List Int) (sm toh sn old cp sr : Int) (ar : Option Addr) (cr : Nat) (rs : List (Int × Int)) (w : World) (hA : w.rowIs ba 30 10 (fun i => (#[.slice (some ⟨bw, 0, none⟩) ws.length cw, .int .i64 sm, .int .i64 toh, .int .i64 sn, .bool true, .int .i64 sn, .int .i64 old, .int .i64 cp, .int .i64 sr, .slice ar rs.length cr] : Array Value).getD i (.bool false))) :
 Calls Tryz.prog 151 #[.pointer (some ⟨ba, 0, none⟩)] w fun e w' => e = .returned (.tuple #[]) /\ w'.rowIs ba 30 10 (fun i => (#[.slice (some ⟨bw, 0, none⟩) ws.length cw, .int .i64 sm, .int .i64 toh, .int .i64 sn, .bool false, .int .i64 0, .int .i64 0, .int .i64 0, .int .i64 sr, .slice ar rs.length cr] : Array Value).getD i (.bool false)) /\ Kp [ba] w w' := by
 have HA : Hid (w.rowIs ba 30 10 (fun i => (#[.slice (some ⟨bw, 0, none⟩) ws.length cw, .int .i64 sm, .int .i64 toh, .int .i64 sn, .bool true, .int .i64 sn, .int .i64 old, .int .i64 cp, .int .i64 sr, .slice ar rs.length cr] : Array Value).getD i (.bool false))) := hA
 have KA := zl hA rfl
 have fa := hA.frozen
 have lba := hA.lt
 clear hA
 go_enter Tryz.func151, Tryz.ntmps151
 go_wp2
 go_quiet (fail)
 go_wp2
 go_end0
 refine ⟨rfl, ?_, ?_⟩
 · have h0 : (w.drewN nq).rowIs ba 30 10 _ := HA.out
   refine ((((h0.set 4 _).set 5 _).set 6 _).set 7 _).congr fun i hi => ?_
   have hi2 : i = 0 \/ i = 1 \/ i = 2 \/ i = 3 \/ i = 4 \/ i = 5 \/ i = 6 \/ i = 7 \/ i = 8 \/ i = 9 := by omega
   rcases hi2 with rfl | rfl | rfl | rfl | rfl | rfl | rfl | rfl | rfl | rfl <;> rfl
 · have h0 : Kp [ba] w (w.drewN nq) := Kp.of_below (below_drewN (Below.refl _ _) _)
   exact (((h0.setCell (p := ⟨ba, 4, none⟩) (.inl (by simp)) _).setCell (p := ⟨ba, 5, none⟩) (.inl (by simp)) _).setCell (p := ⟨ba, 6, none⟩) (.inl (by simp)) _).setCell (p := ⟨ba, 7, none⟩) (.inl (by simp)) _
set_option maxHeartbeats 1000000 in
theorem ze9 (ba bw cw : Nat) (ws : List Int) (sm toh top : Int) (cyc : Bool) (sn old cp sr : Int) (ar : Option Addr) (cr : Nat) (rs : List (Int × Int)) (w : World) (hA : w.rowIs ba 30 10 (fun i => (#[.slice (some ⟨bw, 0, none⟩) ws.length cw, .int .i64 sm, .int .i64 toh, .int .i64 top, .bool cyc, .int .i64 sn, .int .i64 old, .int .i64 cp, .int .i64 sr, .slice ar rs.length cr] : Array Value).getD i (.bool false))) (h : ¬ (cyc = true /\ sn = top)) :
 Calls Tryz.prog 151 #[.pointer (some ⟨ba, 0, none⟩)] w fun e w' => e = .returned (.tuple #[]) /\ Below w.heap.size w w' := by
 have KA := zl hA rfl
 clear hA
 cases cyc with
 | false =>
   go_enter Tryz.func151, Tryz.ntmps151
   go_wp2
   go_quiet (fail)
   go_wp2
   go_end0
   exact ⟨rfl, below_drewN (Below.refl _ _) _⟩
 | true =>
   have hne : (sn == top) = false := beq_eq_false_iff_ne.2 (fun g => h ⟨rfl, g⟩)
   clear h
   go_enter Tryz.func151, Tryz.ntmps151
   go_wp2
   go_quiet (fail)
   go_wp2
   go_end0
   exact ⟨rfl, below_drewN (Below.refl _ _) _⟩
theorem zpc {S : Nat} {a : Cp} {t m : Int} (h : a.C <= a.T + 8000) : (zam S a t m).C <= (zam S a t m).T + 8000 := by have := zv6 S a t m; omega
theorem zf5 {S sc : Nat} {a : Cp} (h : a.C <= a.T + 8000) : ∀ k, (zbs S sc a k).C <= (zbs S sc a k).T + 8000
 | 0 => h
 | k + 1 => zpc (zf5 h k)
set_option maxHeartbeats 4000000 in
theorem zpv (bw cw : Nat) (ws : List Int) (sm toh : Int) (T sn : Nat) (old : Int) (C : Nat) (sr : Int) (ar : Option Addr) (cr : Nat) (rs : List (Int × Int)) (w : World) {S E F Od : Nat} {L O : List Nat} {R : Cp × Nat} (hW : RwW w bw ws) (hC : Cyc ⟨ws, T, C⟩ S E F Od sn 0 L O) (hsT : sn ≠ T) (hH : zby sm toh S E F Od) (hCT : C <= T + 8000) (hE8 : E <= 8000) (hR : R = zbk S E ⟨ws, T, C⟩ sn 0) :
 Calls Tryz.prog 152 #[.agg #[.slice (some ⟨bw, 0, none⟩) ws.length cw, .int .i64 sm, .int .i64 toh, .int .i64 (T : Int), .bool true, .int .i64 (sn : Int), .int .i64 old, .int .i64 (C : Int), .int .i64 sr, .slice ar rs.length cr], .int .i64 8000] w fun e w' => e = .returned (.tuple #[.agg #[.slice (some ⟨bw, 0, none⟩) ws.length cw, .int .i64 sm, .int .i64 toh, .int .i64 (R.1.T : Int), .bool false, .int .i64 0, .int .i64 0, .int .i64 0, .int .i64 sr, .slice ar rs.length cr], .int .i64 (R.2 : Int)]) /\ RwW w' bw R.1.ws /\ Kp [bw] w w' := by
 have HW : Hid (RwW w bw ws) := hW
 have HC : Hid (Cyc ⟨ws, T, C⟩ S E F Od sn 0 L O) := hC
 have HH : Hid (zby sm toh S E F Od) := hH
 have HR : Hid (R = zbk S E ⟨ws, T, C⟩ sn 0) := hR
 have hbw : bw < w.heap.size := hW.lt
 clear hW hC hH hR
 go_enter Tryz.func152, Tryz.ntmps152
 go_wp2_with fail
 obtain ⟨w2, hw2⟩ : ∃ V, V = (w.alloc (.cells #[.slice (some ⟨bw, 0, none⟩) ws.length cw, .int .i64 sm, .int .i64 toh, .int .i64 (T : Int), .bool true, .int .i64 (sn : Int), .int .i64 old, .int .i64 (C : Int), .int .i64 sr, .slice ar rs.length cr] 30)).alloc (.cells #[.slice none 0 0, .int .i64 0, .int .i64 0, .int .i64 0, .bool false, .int .i64 0, .int .i64 0, .int .i64 0, .int .i64 0, .slice none 0 0] 30) := ⟨_, rfl⟩
 rw [<- hw2]
 have HRA2 : Hid (w2.rowIs w.heap.size 30 10 (fun i => (#[.slice (some ⟨bw, 0, none⟩) ws.length cw, .int .i64 sm, .int .i64 toh, .int .i64 (T : Int), .bool true, .int .i64 (sn : Int), .int .i64 old, .int .i64 (C : Int), .int .i64 sr, .slice ar rs.length cr] : Array Value).getD i (.bool false))) := by
  show w2.rowIs w.heap.size 30 10 (fun i => (#[.slice (some ⟨bw, 0, none⟩) ws.length cw, .int .i64 sm, .int .i64 toh, .int .i64 (T : Int), .bool true, .int .i64 (sn : Int), .int .i64 old, .int .i64 (C : Int), .int .i64 sr, .slice ar rs.length cr] : Array Value).getD i (.bool false))
  rw [hw2]
  exact (zkg rfl).of_block (((Below.refl _ _).alloc (Nat.le_refl _) _).block _ (by simp))
 have HRX2 : Hid (w2.rowIs (w.heap.size + 1) 30 10 (fun i => (#[.slice none 0 0, .int .i64 0, .int .i64 0, .int .i64 0, .bool false, .int .i64 0, .int .i64 0, .int .i64 0, .int .i64 0, .slice none 0 0] : Array Value).getD i (.bool false))) := by
  show w2.rowIs (w.heap.size + 1) 30 10 (fun i => (#[.slice none 0 0, .int .i64 0, .int .i64 0, .int .i64 0, .bool false, .int .i64 0, .int .i64 0, .int .i64 0, .int .i64 0, .slice none 0 0] : Array Value).getD i (.bool false))
  rw [hw2]
  have h := zkg (W := w.alloc (.cells #[.slice (some ⟨bw, 0, none⟩) ws.length cw, .int .i64 sm, .int .i64 toh, .int .i64 (T : Int), .bool true, .int .i64 (sn : Int), .int .i64 old, .int .i64 (C : Int), .int .i64 sr, .slice ar rs.length cr] 30)) (A := #[.slice none 0 0, .int .i64 0, .int .i64 0, .int .i64 0, .bool false, .int .i64 0, .int .i64 0, .int .i64 0, .int .i64 0, .slice none 0 0]) (t := 30) (n := 10) rfl
  rw [show (w.alloc (.cells #[.slice (some ⟨bw, 0, none⟩) ws.length cw, .int .i64 sm, .int .i64 toh, .int .i64 (T : Int), .bool true, .int .i64 (sn : Int), .int .i64 old, .int .i64 (C : Int), .int .i64 sr, .slice ar rs.length cr] 30)).heap.size = w.heap.size + 1 by simp] at h
  exact h
 have B2 : Below w.heap.size w w2 := by
  rw [hw2]
  exact ((Below.refl _ _).alloc (Nat.le_refl _) _).alloc (by simp) _
 have z2 : w.heap.size + 1 < w2.heap.size := by rw [hw2]; simp
 have HW2 : Hid (RwW w2 bw ws) := Rw.below HW.out B2
 clear hw2
 have hlE : E <= ws.length /\ ws.length <= 1048576 := ⟨HC.out.hE, HC.out.small⟩
 have hS1 := HC.out.hS
 go_loopw [6] (fun u6 wr => ∃ (n : Nat) (a : Cp), u6 = .int .i64 n /\ RwW wr bw a.ws /\ a.ws.length = ws.length /\ Kp [bw, w.heap.size] w2 wr /\ ((∃ (sc d : Nat) (L' : List Nat), wr.rowIs w.heap.size 30 10 (fun i => (#[.slice (some ⟨bw, 0, none⟩) ws.length cw, .int .i64 sm, .int .i64 toh, .int .i64 (a.T : Int), .bool true, .int .i64 (sc : Int), .int .i64 old, .int .i64 (a.C : Int), .int .i64 sr, .slice ar rs.length cr] : Array Value).getD i (.bool false)) /\ Cyc a S E F Od sc 0 L' O /\ sc ≠ a.T /\ E <= sc + d /\ zbk S d a sc n = R /\ n + sn <= sc /\ a.C <= a.T + 8000) \/ (wr.rowIs w.heap.size 30 10 (fun i => (#[.slice (some ⟨bw, 0, none⟩) ws.length cw, .int .i64 sm, .int .i64 toh, .int .i64 (a.T : Int), .bool false, .int .i64 0, .int .i64 0, .int .i64 0, .int .i64 sr, .slice ar rs.length cr] : Array Value).getD i (.bool false)) /\ R = (a, n)))) (fun u6 _ => 8000 - (intOf u6).toNat)
 case atStart =>
  exact ⟨0, ⟨ws, T, C⟩, rfl, HW2.out, rfl, Kp.refl _ _, .inl ⟨sn, E, L, HRA2.out, HC.out, hsT, by omega, HR.out.symm, by omega, hCT⟩⟩
 case round =>
  obtain ⟨n, a, rfl, hWr, hlen, hKr, hcs⟩ := hrel
  rcases hcs with ⟨sc, d, L', hRA, hCa, hne, hd, hrun, hns, hle⟩ | ⟨hRA, hRe⟩
  · obtain ⟨sS, sT, sL⟩ := hCa.scanT
    have hTE := hCa.TE
    have hscL := sL hne
    have hinL := hCa.inL hscL
    have hn8 : (n : Int) < 8000 := by omega
    have KA := zl hRA rfl
    have HCa : Hid (Cyc a S E F Od sc 0 L' O) := hCa
    have HLK : Hid (∀ W, RwW W bw a.ws -> Calls Tryz.prog 70 #[.agg #[.slice (some ⟨bw, 0, none⟩) ws.length cw, .int .i64 sm, .int .i64 toh, .int .i64 (a.T : Int), .bool true, .int .i64 (sc : Int), .int .i64 old, .int .i64 (a.C : Int), .int .i64 sr, .slice ar rs.length cr], .int .i64 (sc : Int)] W fun e w' => e = .returned (.agg #[.int .i64 (rdK (za a.ws sc)), .int .i64 (rdS (za a.ws sc)), .int .i64 (rdN (za a.ws sc))]) /\ Below W.heap.size W w') := fun W hW => by
     rw [<- hlen]
     exact zbn _ _ _ _ _ _ _ _ _ _ _ _ _ _ _ sc _ rfl (RwW.sl hW cw) (by omega) hCa.w64 (by omega)
    have HWr : Hid (RwW wr bw a.ws) := hWr
    have HKr : Hid (Kp [bw, w.heap.size] w2 wr) := hKr
    have HRAr : Hid (wr.rowIs w.heap.size 30 10 (fun i => (#[.slice (some ⟨bw, 0, none⟩) ws.length cw, .int .i64 sm, .int .i64 toh, .int .i64 (a.T : Int), .bool true, .int .i64 (sc : Int), .int .i64 old, .int .i64 (a.C : Int), .int .i64 sr, .slice ar rs.length cr] : Array Value).getD i (.bool false))) := hRA
    have HRUN : Hid (zbk S d a sc n = R) := hrun
    have HLEN : Hid (a.ws.length = ws.length) := hlen
    have lwr : w.heap.size < wr.heap.size := hRA.lt
    clear hCa hWr hKr hRA hrun hlen
    go_wp2_with fail
    refine (HLK.out _ (HWr.out)).mono ?_
    rintro e w3 ⟨rfl, b3⟩
    go_wp2_with fail
    refine (zhf _ _ _).mono ?_
    rintro e w4 ⟨v4, rfl, o4, b4⟩
    have HA := zq b4 (by simp)
    have B4 : Below wr.heap.size wr w4 := zc b3 (zd b4)
    have z3 : wr.heap.size <= w3.heap.size := b3.size
    have z4 : w3.heap.size < w4.heap.size := zr b4
    have HWi : Hid (RwW w4 bw a.ws) := Rw.below HWr.out B4
    have HRAi : Hid (w4.rowIs w.heap.size 30 10 (fun i => (#[.slice (some ⟨bw, 0, none⟩) ws.length cw, .int .i64 sm, .int .i64 toh, .int .i64 (a.T : Int), .bool true, .int .i64 (sc : Int), .int .i64 old, .int .i64 (a.C : Int), .int .i64 sr, .slice ar rs.length cr] : Array Value).getD i (.bool false))) := HRAr.out.of_block (B4.block _ lwr)
    have HKi : Hid (Kp [bw, w.heap.size] w2 w4) := HKr.out.next B4
    obtain ⟨asl, csl, rfl, hcase⟩ := o4
    obtain ⟨N, hN⟩ : ∃ N, N = slN (rdK (za a.ws sc)) (rdS (za a.ws sc)) := ⟨_, rfl⟩
    rw [<- hN] at hcase ⊢
    have hN1 : N <= 128 := by rw [hN]; exact zju _ _
    have HN : Hid (N = zay a.ws sc) := hN
    have hz4 : w.heap.size < w4.heap.size := by omega
    have HCASE : Hid (N = 0 \/ ∃ b M g, asl = some ⟨b, 0, none⟩ /\ w3.heap.size < b /\ b < w4.heap.size /\ N <= M /\ w4.rowIs b 3 M g /\ ∀ i, i < N -> g i = .int .i64 (fs (rdK (za a.ws sc)) + 2 * (i : Int))) := by
     rcases hcase with h | ⟨b, M, g, h1, h2, h3, h4, h5, h6⟩
     · exact .inl h
     · exact .inr ⟨b, M, g, h1, by simp at h2; omega, h3, h4, h5, h6⟩
    clear hN hcase b3 b4 HWr HRAr HKr HLK KA
    go_wp2
    go_loopw [9] (fun u9 wi => ∃ k : Nat, k <= N /\ u9 = .int .i64 k /\ wi.rowIs w.heap.size 30 10 (fun i => (#[.slice (some ⟨bw, 0, none⟩) ws.length cw, .int .i64 sm, .int .i64 toh, .int .i64 ((zbs S sc a k).T : Int), .bool true, .int .i64 (sc : Int), .int .i64 old, .int .i64 ((zbs S sc a k).C : Int), .int .i64 sr, .slice ar rs.length cr] : Array Value).getD i (.bool false)) /\ RwW wi bw (zbs S sc a k).ws /\ Kp [bw, w.heap.size] w4 wi) (fun u9 _ => N - (intOf u9).toNat)
    case atStart => exact ⟨0, Nat.zero_le _, rfl, HRAi.out, HWi.out, Kp.refl _ _⟩
    case round =>
     obtain ⟨k, hk, rfl, hRAk, hWk, hKk⟩ := hrel
     obtain ⟨M', hCk, hhd, hlk, hTk⟩ := HCa.out.slots hscL k (by rw [<- HN.out]; exact hk)
     have hlek := zf5 (S := S) (sc := sc) hle k
     by_cases hlt : k < N
     · have hlt' : (k : Int) < (N : Int) := by omega
       obtain ⟨bs, M, g, rfl, hbs1, hbs2, hNM, hrow, hg⟩ : ∃ b M g, asl = some ⟨b, 0, none⟩ /\ w3.heap.size < b /\ b < w4.heap.size /\ N <= M /\ w4.rowIs b 3 M g /\ ∀ i, i < N -> g i = .int .i64 (fs (rdK (za a.ws sc)) + 2 * (i : Int)) := by
        rcases HCASE.out with h | h
        · omega
        · exact h
       obtain ⟨wsk, Tk, Ck, hek⟩ : ∃ wsk Tk Ck, zbs S sc a k = ⟨wsk, Tk, Ck⟩ := ⟨_, _, _, rfl⟩
       rw [hek] at hRAk hWk hCk hhd hlk hTk hlek
       dsimp only at hRAk hWk hCk hhd hlk hTk hlek
       have hscL' : sc ∈ L' ++ M' := by simp [hscL]
       have hNk : zay wsk sc = N := by rw [HN.out]; simp [zay, hhd]
       have hJ : k < zay wsk sc := by omega
       obtain ⟨q1, q2, q3⟩ := hCk.inL hscL'
       obtain ⟨x1, x2⟩ := ze2 q2 hJ
       dsimp only at q1 q2 q3 x1 x2
       have hTEk := hCk.TE
       have hEk := hCk.hE
       have hsmk := hCk.small
       have hw64 := hCk.w64
       dsimp only at hTEk hEk hsmk hw64
       have href := hCk.slot_ref hscL' hJ
       dsimp only at href
       obtain ⟨X, hX⟩ : ∃ X, X = zu wsk sc k := ⟨_, rfl⟩
       rw [<- hX] at x1 x2 href
       obtain ⟨Y, hY⟩ : ∃ Y : Int, Y = fs (rdK (za a.ws sc)) + 2 * (k : Int) := ⟨_, rfl⟩
       have hY0 : 0 <= Y := by have := zss (rdK (za a.ws sc)); omega
       have hXY : (sc : Int) + Y = (X : Int) := by
        have e : X = sc + (fs (rdK (za a.ws sc)) + 2 * (k : Int)).toNat := by rw [hX]; simp [zu, hhd]
        omega
       have hX1 : X + 1 < wsk.length := by unfold szA at q3; omega
       have hgk : g k = .int .i64 Y := by rw [hg k hlt, hY]
       have y4 : w4.cell? ⟨bs, k, none⟩ = some (.int .i64 Y) := by rw [hrow.cell (i := k) (by omega), hgk]
       obtain ⟨t, ht⟩ : ∃ t, t = rvT wsk X := ⟨_, rfl⟩
       obtain ⟨m, hm⟩ : ∃ m, m = rvN wsk X := ⟨_, rfl⟩
       obtain ⟨a2, ha2⟩ : ∃ x, x = zam S ⟨wsk, Tk, Ck⟩ t m := ⟨_, rfl⟩
       obtain ⟨m2, hm2⟩ : ∃ x, x = zbf S ⟨wsk, Tk, Ck⟩ t m := ⟨_, rfl⟩
       have HEK : Hid (zbs S sc a (k + 1) = ⟨a2.ws.set (X + 1) (IntKind.u64.wrap m2), a2.T, a2.C⟩) := by
        show zbs S sc a (k + 1) = _
        simp only [zbs, hek, zbb, <- hX, <- ht, <- hm, <- ha2, <- hm2]
       rw [<- ht, <- hm] at href
       have hl2 : a2.ws.length = wsk.length := by rw [ha2]; exact (hCk.fwd_same href).1
       have HLk : Hid (wsk.length = ws.length) := hlk.trans HLEN.out
       have HL2 : Hid (a2.ws.length = ws.length) := hl2.trans HLk.out
       have HFW : Hid (∀ W, RwW W bw wsk -> Calls Tryz.prog 147 #[.agg #[.slice (some ⟨bw, 0, none⟩) ws.length cw, .int .i64 sm, .int .i64 toh, .int .i64 (Tk : Int), .bool true, .int .i64 (sc : Int), .int .i64 old, .int .i64 (Ck : Int), .int .i64 sr, .slice ar rs.length cr], .agg #[.int .i64 t, .int .i64 m]] W fun e w' => e = .returned (.tuple #[.agg #[.slice (some ⟨bw, 0, none⟩) ws.length cw, .int .i64 sm, .int .i64 toh, .int .i64 (a2.T : Int), .bool true, .int .i64 (sc : Int), .int .i64 old, .int .i64 (a2.C : Int), .int .i64 sr, .slice ar rs.length cr], .agg #[.int .i64 t, .int .i64 m2]]) /\ RwW w' bw a2.ws /\ Kp [bw] W w') := fun W hW => by
        rw [ha2, hm2, <- HLk.out]
        exact zl0 bw cw wsk sm toh Tk true (sc : Int) old Ck sr ar cr rs t m W hW hCk HH.out href (by omega)
       have HRD : Hid (∀ W x, x = (X : Int) -> RwW W bw wsk -> Calls Tryz.prog 111 #[.slice (some ⟨bw, 0, none⟩) ws.length cw, .int .i64 x] W fun e w' => e = .returned (.tuple #[.agg #[.int .i64 t, .int .i64 m], .bool (zav wsk X)]) /\ Below W.heap.size W w') := fun W x hx hW => by
        rw [<- HLk.out, ht, hm]
        exact zdi _ wsk _ X _ hx (RwW.sl hW cw) (by omega) hw64 hX1
       have lbw : bw < wr.heap.size := hWk.lt
       have lwi : w.heap.size < wr.heap.size := hRAk.lt
       have KA := zl hRAk rfl
       have yk : wr.cell? ⟨bs, k, none⟩ = some (.int .i64 Y) := by rw [hKk.cell (p := ⟨bs, k, none⟩) hbs2 (by simp; omega)]; exact y4
       have KP : ∀ V, Below wr.heap.size wr V -> (Below wr.heap.size wr V /\ V.cell? ⟨w.heap.size, 0, none⟩ = some (.slice (some ⟨bw, 0, none⟩) ws.length cw) /\ V.cell? ⟨w.heap.size, 5, none⟩ = some (.int .i64 (sc : Int)) /\ V.cell? ⟨bs, k, none⟩ = some (.int .i64 Y)) := fun V hV => ⟨hV, by rw [hV.cell (p := ⟨w.heap.size, 0, none⟩) lwi, KA 0]; rfl, by rw [hV.cell (p := ⟨w.heap.size, 5, none⟩) lwi, KA 5]; rfl, by rw [hV.cell (p := ⟨bs, k, none⟩) (show bs < wr.heap.size from Nat.lt_of_lt_of_le hbs2 hKk.size)]; exact yk⟩
       have HXw : Hid (IntKind.i64.wrap ((sc : Int) + Y) = (X : Int)) := by show IntKind.i64.wrap ((sc : Int) + Y) = (X : Int); rw [IntKind.wrap_i64]; omega
       have HXy : Hid ((sc : Int) + Y = (X : Int)) := hXY
       have hXb : (X : Int) + 1 < 1048576 := by omega
       have HWk : Hid (RwW wr bw wsk) := hWk
       have HRAk : Hid (wr.rowIs w.heap.size 30 10 (fun i => (#[.slice (some ⟨bw, 0, none⟩) ws.length cw, .int .i64 sm, .int .i64 toh, .int .i64 (Tk : Int), .bool true, .int .i64 (sc : Int), .int .i64 old, .int .i64 (Ck : Int), .int .i64 sr, .slice ar rs.length cr] : Array Value).getD i (.bool false))) := hRAk
       have HKk : Hid (Kp [bw, w.heap.size] w4 wr) := hKk
       have HTE : Hid (X + 1 < wsk.length) := hX1
       have HHD : Hid (X + 1 < Tk) := by show X + 1 < Tk; unfold szA at q3; omega
       have hlb : bs < wr.heap.size := Nat.lt_of_lt_of_le hbs2 hKk.size
       have hkN : (k : Int) < 128 := by omega
       have hln : (wsk.length : Int) <= 1048576 := by omega
       clear hRAk hWk hKk hCk hhd hlk hTk hlek hek hscL' hNk hJ q1 q2 q3 x1 x2 hTEk hEk hsmk hw64 href hX hXY hY hX1 hgk y4 ht hm ha2 hm2 hl2 hrow hg hNM
       go_upto_region 8 with fail
       go_cut [10, 11] from 36 to 48 (fun s10 s11 wc => ∃ cV : Nat, s10 = .pointer (some ⟨cV, 0, none⟩) /\ s11 = .bool (zav wsk X) /\ wc.cell? ⟨cV, 0, none⟩ = some (.int .i64 t) /\ wc.cell? ⟨cV, 1, none⟩ = some (.int .i64 m) /\ Below wr.heap.size wr wc)
       case first =>
        clear KA yk
        go_region_held3 (fun V => Below wr.heap.size wr V /\ V.cell? ⟨w.heap.size, 0, none⟩ = some (.slice (some ⟨bw, 0, none⟩) ws.length cw) /\ V.cell? ⟨w.heap.size, 5, none⟩ = some (.int .i64 (sc : Int)) /\ V.cell? ⟨bs, k, none⟩ = some (.int .i64 Y)) (first | exact KP _ (by assumption) | exact KP _ (Below.refl _ _) | exact KP _ (Below.refl _ _).drew | exact KP _ (zbp (And.left (by assumption)) _) | (refine KP _ ?_; repeat (first | assumption | exact And.left (by assumption) | refine Below.setCell ?_ (by first | exact Nat.le_refl _ | (simp; done) | (simp; omega)) _ | refine zbp ?_ _))) (first | (go_at_call 111; refine (HRD.out _ _ (by first | exact HXw.out | exact HXy.out) (Rw.below HWk.out (And.left (by assumption)))).mono ?_; rintro e w' ⟨rfl, hb⟩; have hB3 := zc (w := wr) (And.left (by assumption)) hb; have hz3 := hB3.size; obtain ⟨hc, hf⟩ := zah hb; have hz := hb.size; simp at hz; clear hb))
        · go_wp2_with fail
          go_meet
          exact ⟨_, rfl, rfl, by simp [go_sem], by simp [go_sem], zbp hB3 _⟩
        · go_wp2_with fail
          go_meet
          have p0 : (w'.cell? ⟨wr.heap.size, 0, none⟩).isSome = true := by rw [hc _ _ (by simp)]; simp [go_sem]
          have p1 : (w'.cell? ⟨wr.heap.size, 1, none⟩).isSome = true := by rw [hc _ _ (by simp)]; simp [go_sem]
          exact ⟨_, rfl, rfl, by simp [go_sem, p0, p1], by simp [go_sem, p0, p1], (hB3.setCell (p := ⟨wr.heap.size, 0, none⟩) (Nat.le_refl _) _).setCell (p := ⟨wr.heap.size, 1, none⟩) (Nat.le_refl _) _⟩
       case rest =>
        obtain ⟨cV, rfl, rfl, cv0, cv1, hBc⟩ := hcut
        have KAc := ze KA hBc lwi
        have HWc : Hid (RwW wc bw wsk) := Rw.below HWk.out hBc
        have HRAc : Hid (wc.rowIs w.heap.size 30 10 (fun i => (#[.slice (some ⟨bw, 0, none⟩) ws.length cw, .int .i64 sm, .int .i64 toh, .int .i64 (Tk : Int), .bool true, .int .i64 (sc : Int), .int .i64 old, .int .i64 (Ck : Int), .int .i64 sr, .slice ar rs.length cr] : Array Value).getD i (.bool false))) := HRAk.out.of_block (hBc.block _ lwi)
        have HKc : Hid (Kp [bw, w.heap.size] w4 wc) := HKk.out.next hBc
        have lwc : w.heap.size < wc.heap.size := Nat.lt_of_lt_of_le lwi hBc.size
        have lbc : bs < wc.heap.size := Nat.lt_of_lt_of_le hlb hBc.size
        have lbwc : bw < wc.heap.size := Nat.lt_of_lt_of_le lbw hBc.size
        have yc : wc.cell? ⟨bs, k, none⟩ = some (.int .i64 Y) := by rw [hBc.cell (p := ⟨bs, k, none⟩) hlb]; exact yk
        clear KA KP HWk HRAk HKk hBc yk
        go_wp2_with fail
        refine (HFW.out _ HWc.out).mono ?_
        rintro e w5 ⟨rfl, hW5, hK5⟩
        have HW5 : Hid (RwW w5 bw a2.ws) := hW5
        have HK5 : Hid (Kp [bw] wc w5) := hK5
        have nbw : bw ≠ w.heap.size := by omega
        have HRA5 : Hid (w5.rowIs w.heap.size 30 10 (fun i => (#[.slice (some ⟨bw, 0, none⟩) ws.length cw, .int .i64 sm, .int .i64 toh, .int .i64 (Tk : Int), .bool true, .int .i64 (sc : Int), .int .i64 old, .int .i64 (Ck : Int), .int .i64 sr, .slice ar rs.length cr] : Array Value).getD i (.bool false))) := HRAc.out.of_block (hK5.block _ lwc (by simp; omega))
        have KA5 := zl HRA5.out rfl
        have fa5 := HRA5.out.frozen
        have l5 : w.heap.size < w5.heap.size := Nat.lt_of_lt_of_le lwc hK5.size
        have lb5 : bs < w5.heap.size := Nat.lt_of_lt_of_le lbc hK5.size
        have y5 : w5.cell? ⟨bs, k, none⟩ = some (.int .i64 Y) := by rw [hK5.cell (p := ⟨bs, k, none⟩) lbc (by simp; omega)]; exact yc
        have d0 := KA5 0
        have d1 := KA5 1
        have d2 := KA5 2
        have d3 := KA5 3
        have d4 := KA5 4
        have d5 := KA5 5
        have d6 := KA5 6
        have d7 := KA5 7
        have d8 := KA5 8
        have d9 := KA5 9
        simp at d0 d1 d2 d3 d4 d5 d6 d7 d8 d9
        clear hW5 hK5 KAc KA5 yc cv0 cv1 HRAc HWc HFW HRD
        go_upto_region 11 with fail
        obtain ⟨w6, hw6⟩ : ∃ V, V = ((((((((((((w5.setCell ⟨w.heap.size, 0, none⟩ (.slice (some ⟨bw, 0, none⟩) ws.length cw)).setCell ⟨w.heap.size, 1, none⟩ (.int .i64 sm)).setCell ⟨w.heap.size, 2, none⟩ (.int .i64 toh)).setCell ⟨w.heap.size, 3, none⟩ (.int .i64 (a2.T : Int))).setCell ⟨w.heap.size, 4, none⟩ (.bool true)).setCell ⟨w.heap.size, 5, none⟩ (.int .i64 (sc : Int))).setCell ⟨w.heap.size, 6, none⟩ (.int .i64 old)).setCell ⟨w.heap.size, 7, none⟩ (.int .i64 (a2.C : Int))).setCell ⟨w.heap.size, 8, none⟩ (.int .i64 sr)).setCell ⟨w.heap.size, 9, none⟩ (.slice ar rs.length cr))).alloc (.cells #[.slice (some ⟨bw, 0, none⟩) ws.length cw, .int .i64 sm, .int .i64 toh, .int .i64 (a2.T : Int), .bool true, .int .i64 (sc : Int), .int .i64 old, .int .i64 (a2.C : Int), .int .i64 sr, .slice ar rs.length cr] 30)).alloc (.cells #[.int .i64 t, .int .i64 m2] 50) := ⟨_, rfl⟩
        rw [<- hw6]
        have e6 : ∀ x, x < w5.heap.size -> x ≠ w.heap.size -> w6.heap[x]? = w5.heap[x]? := fun x hx hn => by
         rw [hw6, (((Below.refl _ _).alloc (Nat.le_refl _) _).alloc (by simp) _).block x (by simpa using hx)]
         exact zc0 hn
        have HRA6 : Hid (w6.rowIs w.heap.size 30 10 (fun i => (#[.slice (some ⟨bw, 0, none⟩) ws.length cw, .int .i64 sm, .int .i64 toh, .int .i64 (a2.T : Int), .bool true, .int .i64 (sc : Int), .int .i64 old, .int .i64 (a2.C : Int), .int .i64 sr, .slice ar rs.length cr] : Array Value).getD i (.bool false))) := by
         show w6.rowIs w.heap.size 30 10 (fun i => (#[.slice (some ⟨bw, 0, none⟩) ws.length cw, .int .i64 sm, .int .i64 toh, .int .i64 (a2.T : Int), .bool true, .int .i64 (sc : Int), .int .i64 old, .int .i64 (a2.C : Int), .int .i64 sr, .slice ar rs.length cr] : Array Value).getD i (.bool false))
         rw [hw6]
         exact (zkf HRA5.out rfl rfl rfl rfl rfl rfl rfl rfl rfl rfl).of_block ((((Below.refl _ _).alloc (Nat.le_refl _) _).alloc (by simp) _).block _ (by simpa using l5))
        have KA6 := zl HRA6.out rfl
        have fa6 := HRA6.out.frozen
        have z6 : w5.heap.size + 1 < w6.heap.size := by rw [hw6]; simp
        have v6 : w6.cell? ⟨w5.heap.size + 1, 1, none⟩ = some (.int .i64 m2) := by
         rw [hw6]
         have h := (zkg (W := (((((((((((w5.setCell ⟨w.heap.size, 0, none⟩ (.slice (some ⟨bw, 0, none⟩) ws.length cw)).setCell ⟨w.heap.size, 1, none⟩ (.int .i64 sm)).setCell ⟨w.heap.size, 2, none⟩ (.int .i64 toh)).setCell ⟨w.heap.size, 3, none⟩ (.int .i64 (a2.T : Int))).setCell ⟨w.heap.size, 4, none⟩ (.bool true)).setCell ⟨w.heap.size, 5, none⟩ (.int .i64 (sc : Int))).setCell ⟨w.heap.size, 6, none⟩ (.int .i64 old)).setCell ⟨w.heap.size, 7, none⟩ (.int .i64 (a2.C : Int))).setCell ⟨w.heap.size, 8, none⟩ (.int .i64 sr)).setCell ⟨w.heap.size, 9, none⟩ (.slice ar rs.length cr))).alloc (.cells #[.slice (some ⟨bw, 0, none⟩) ws.length cw, .int .i64 sm, .int .i64 toh, .int .i64 (a2.T : Int), .bool true, .int .i64 (sc : Int), .int .i64 old, .int .i64 (a2.C : Int), .int .i64 sr, .slice ar rs.length cr] 30)) (A := #[.int .i64 t, .int .i64 m2]) (t := 50) (n := 2) rfl).cell (i := 1) (by omega)
         simpa using h
        have y6 : w6.cell? ⟨bs, k, none⟩ = some (.int .i64 Y) := by rw [World.cell?_of_block (w := w5) (e6 bs lb5 (by omega))]; exact y5
        have HW6 : Hid (RwW w6 bw a2.ws) := Rw.of_block HW5.out (e6 bw HW5.out.lt nbw)
        have HK6 : Hid (Kp [bw, w.heap.size] w4 w6) := by
         show Kp [bw, w.heap.size] w4 w6
         rw [hw6]
         exact ((zhj (HKc.out.trans (HK5.out.mono (fun x hx => by simp at hx; simp [hx]))) (by simp)).alloc _).alloc _
        have c6 := HW6.out.cell (i := X + 1) (by rw [HL2.out, <- HLk.out]; exact HTE.out)
        have f6 := HW6.out.frozen
        have lbw6 := HW6.out.lt
        have hXl : (X : Int) + 1 < (ws.length : Int) := by have := HTE.out; rw [HLk.out] at this; omega
        have hXY := HXy.out
        clear hw6 e6 HRA5 d0 d1 d2 d3 d4 d5 d6 d7 d8 d9 fa5 y5 HKc HK5 HW5 HXy HXw
        go_region
        go_wp2
        refine ⟨⟨k + 1, hlt, by go_num, ?_, ?_, ?_⟩, by simp [intOf]; omega⟩
        · rw [HEK.out]
          exact HRA6.out.setOther (a := ⟨bw, X + 1, none⟩) nbw.symm _
        · rw [HEK.out]
          exact RwW.set HW6.out _ (by rw [HL2.out, <- HLk.out]; exact HTE.out)
        · exact (HK6.out.setCell (p := ⟨bw, X + 1, none⟩) (.inl (by simp)) _).drew
     · obtain rfl : k = N := by omega
       have hge : ¬ (k : Int) < (k : Int) := by omega
       obtain ⟨aN, haN⟩ : ∃ x, x = zbs S sc a k := ⟨_, rfl⟩
       have hObj : zcs S sc a = aN := by rw [haN, HN.out]; rfl
       obtain ⟨M2, hC2, hl2, hT2⟩ := HCa.out.obj hscL
       have hinL2 := hinL
       rw [hObj] at hC2 hl2 hT2
       rw [<- haN] at hRAk hWk hlek
       obtain ⟨s2, hs2⟩ : ∃ s2, s2 = sc + szA a.ws sc := ⟨_, rfl⟩
       rw [<- hs2] at hC2
       have hsz : (sc : Int) + rdS (za a.ws sc) + 1 = (s2 : Int) := by
        have := zau (za a.ws sc)
        unfold szA at hs2
        omega
       have HSZ : Hid ((sc : Int) + rdS (za a.ws sc) + 1 = (s2 : Int)) := hsz
       have hs2b := hC2.scanT
       have hTE2 := hC2.TE
       have hE2 := hC2.hE
       have hrS := zau (za a.ws sc)
       obtain ⟨d', hd'⟩ : ∃ d', d = d' + 1 := ⟨d - 1, by omega⟩
       have HRUN2 : Hid (zbk S d' aN s2 (n + 1) = R) := by
        show zbk S d' aN s2 (n + 1) = R
        rw [<- HRUN.out, hd', zf8 hne, hObj, hs2]
       have hsg := zjn a.ws sc
       have hd2 : E <= s2 + d' := by omega
       have hn2 : n + 1 + sn <= s2 := by omega
       have HC2 : Hid (Cyc aN S E F Od s2 0 (L' ++ M2) O) := hC2
       have HLE2 : Hid (aN.C <= aN.T + 8000) := hlek
       have HL2 : Hid (aN.ws.length = ws.length) := hl2.trans HLEN.out
       have HWN : Hid (RwW wr bw aN.ws) := hWk
       have HKN : Hid (Kp [bw, w.heap.size] w2 wr) := HKi.out.trans hKk
       have HRAN : Hid (wr.rowIs w.heap.size 30 10 (fun i => (#[.slice (some ⟨bw, 0, none⟩) ws.length cw, .int .i64 sm, .int .i64 toh, .int .i64 (aN.T : Int), .bool true, .int .i64 (sc : Int), .int .i64 old, .int .i64 (aN.C : Int), .int .i64 sr, .slice ar rs.length cr] : Array Value).getD i (.bool false))) := hRAk
       have lz3 : w3.heap.size < wr.heap.size := Nat.lt_of_lt_of_le z4 hKk.size
       have HAk := Kp.has HA hKk z4 (by simp; omega)
       have KA := zl hRAk rfl
       have fa := hRAk.frozen
       have lwN : w.heap.size < wr.heap.size := hRAk.lt
       clear hRAk hWk hKk hCk hhd hlk hTk hlek hC2 hl2 hObj haN HCa HWi HRAi HKi HRUN HCASE hs2 hsz hinL2
       go_upto_region 14 with fail
       rw [HSZ.out]
       obtain ⟨w7, hw7⟩ : ∃ V, V = wr.setCell ⟨w.heap.size, 5, none⟩ (.int .i64 (s2 : Int)) := ⟨_, rfl⟩
       rw [<- hw7]
       have HRA7 : Hid (w7.rowIs w.heap.size 30 10 (fun i => (#[.slice (some ⟨bw, 0, none⟩) ws.length cw, .int .i64 sm, .int .i64 toh, .int .i64 (aN.T : Int), .bool true, .int .i64 (s2 : Int), .int .i64 old, .int .i64 (aN.C : Int), .int .i64 sr, .slice ar rs.length cr] : Array Value).getD i (.bool false))) := by
        show w7.rowIs w.heap.size 30 10 (fun i => (#[.slice (some ⟨bw, 0, none⟩) ws.length cw, .int .i64 sm, .int .i64 toh, .int .i64 (aN.T : Int), .bool true, .int .i64 (s2 : Int), .int .i64 old, .int .i64 (aN.C : Int), .int .i64 sr, .slice ar rs.length cr] : Array Value).getD i (.bool false))
        rw [hw7]
        refine (HRAN.out.set 5 _).congr fun i hi => ?_
        have hi2 : i = 0 \/ i = 1 \/ i = 2 \/ i = 3 \/ i = 4 \/ i = 5 \/ i = 6 \/ i = 7 \/ i = 8 \/ i = 9 := by omega
        rcases hi2 with rfl | rfl | rfl | rfl | rfl | rfl | rfl | rfl | rfl | rfl <;> rfl
       have nbw : bw ≠ w.heap.size := by omega
       have HW7 : Hid (RwW w7 bw aN.ws) := by rw [hw7]; exact Rw.other HWN.out (p := ⟨w.heap.size, 5, none⟩) nbw _
       have HK7 : Hid (Kp [bw, w.heap.size] w2 w7) := by
        show Kp [bw, w.heap.size] w2 w7
        rw [hw7]
        exact HKN.out.setCell (p := ⟨w.heap.size, 5, none⟩) (.inl (by simp)) _
       have l7 : w.heap.size < w7.heap.size := HRA7.out.lt
       clear hw7 HRAN HWN HKN KA HAk fa
       by_cases hov : s2 = aN.T
       · have HOV : Hid (s2 = aN.T) := hov
         rw [<- hov] at HRA7
         clear hov
         have KA7 := zl HRA7.out rfl
         go_wp2_with fail
         refine (zjc _ _ _ _ _ _ _ _ _ _ _ _ _).mono ?_
         rintro e w8 ⟨rfl, b8⟩
         have HRA8 : Hid (w8.rowIs w.heap.size 30 10 (fun i => (#[.slice (some ⟨bw, 0, none⟩) ws.length cw, .int .i64 sm, .int .i64 toh, .int .i64 (s2 : Int), .bool true, .int .i64 (s2 : Int), .int .i64 old, .int .i64 (aN.C : Int), .int .i64 sr, .slice ar rs.length cr] : Array Value).getD i (.bool false))) := HRA7.out.of_block (b8.block _ l7)
         have HW8 : Hid (RwW w8 bw aN.ws) := Rw.below HW7.out b8
         have HK8 : Hid (Kp [bw, w.heap.size] w2 w8) := HK7.out.next b8
         have fa8 := HRA8.out.frozen
         obtain ⟨d0, d1, d2, d3, d4, d5, d6, d7, d8, d9⟩ := zd7 HRA8.out rfl rfl rfl rfl rfl rfl rfl rfl rfl rfl
         simp at d0 d1 d2 d3 d4 d5 d6 d7 d8 d9
         have HS8 : Hid (w7.heap.size <= w8.heap.size) := b8.size
         clear b8 KA7
         go_wp2
         refine ⟨⟨n + 1, aN, by go_num, ?_, HL2.out, ?_, .inr ⟨?_, ?_⟩⟩, by simp [intOf]; omega⟩
         · exact Rw.of_block HW8.out (zc0 nbw)
         · exact zhj HK8.out (by simp)
         · rw [<- HOV.out]
           exact zkf HRA8.out rfl rfl rfl rfl rfl rfl rfl rfl rfl rfl
         · rw [<- HRUN2.out, ze1 _ _ _ _ _ HOV.out]
       · have HOV : Hid (¬ s2 = aN.T) := hov
         clear hov
         have KA7 := zl HRA7.out rfl
         go_wp2_with fail
         refine (zhk _ _ _ _ _ _ _ _ _ _ _ _ _ _ _ (by intro g; exact HOV.out (by have := g.2; omega))).mono ?_
         rintro e w8 ⟨rfl, b8⟩
         have HRA8 : Hid (w8.rowIs w.heap.size 30 10 (fun i => (#[.slice (some ⟨bw, 0, none⟩) ws.length cw, .int .i64 sm, .int .i64 toh, .int .i64 (aN.T : Int), .bool true, .int .i64 (s2 : Int), .int .i64 old, .int .i64 (aN.C : Int), .int .i64 sr, .slice ar rs.length cr] : Array Value).getD i (.bool false))) := HRA7.out.of_block (b8.block _ l7)
         have HW8 : Hid (RwW w8 bw aN.ws) := Rw.below HW7.out b8
         have HK8 : Hid (Kp [bw, w.heap.size] w2 w8) := HK7.out.next b8
         have fa8 := HRA8.out.frozen
         obtain ⟨d0, d1, d2, d3, d4, d5, d6, d7, d8, d9⟩ := zd7 HRA8.out rfl rfl rfl rfl rfl rfl rfl rfl rfl rfl
         simp at d0 d1 d2 d3 d4 d5 d6 d7 d8 d9
         have HS8 : Hid (w7.heap.size <= w8.heap.size) := b8.size
         clear b8 KA7
         go_wp2
         refine ⟨⟨n + 1, aN, by go_num, ?_, HL2.out, ?_, .inl ⟨s2, d', L' ++ M2, ?_, HC2.out, HOV.out, hd2, HRUN2.out, hn2, HLE2.out⟩⟩, by simp [intOf]; omega⟩
         · exact Rw.of_block HW8.out (zc0 nbw)
         · exact zhj HK8.out (by simp)
         · exact zkf HRA8.out rfl rfl rfl rfl rfl rfl rfl rfl rfl rfl
  · have HRe : Hid (R = (a, n)) := hRe
    have KA := zl hRA rfl
    have HWr : Hid (RwW wr bw a.ws) := hWr
    have HRX : Hid (wr.rowIs (w.heap.size + 1) 30 10 (fun i => (#[.slice none 0 0, .int .i64 0, .int .i64 0, .int .i64 0, .bool false, .int .i64 0, .int .i64 0, .int .i64 0, .int .i64 0, .slice none 0 0] : Array Value).getD i (.bool false))) := HRX2.out.of_block (hKr.block _ HRX2.out.lt (by simp; omega))
    have HKF : Hid (Kp [bw] w wr) := ⟨hKr.os.trans B2.os, hKr.tape.trans B2.tape, hKr.output.trans B2.output, Nat.le_trans B2.size hKr.size, fun j hj hn => by
     rw [hKr.block j (Nat.lt_of_lt_of_le hj B2.size) (by simp at hn ⊢; exact ⟨hn, by omega⟩), B2.block j hj]⟩
    obtain ⟨d0, d1, d2, d3, d4, d5, d6, d7, d8, d9⟩ := zd7 HRX.out rfl rfl rfl rfl rfl rfl rfl rfl rfl rfl
    simp at d0 d1 d2 d3 d4 d5 d6 d7 d8 d9
    have fx := HRX.out.frozen
    have lx : w.heap.size + 1 < wr.heap.size := HRX.out.lt
    clear hRA hWr hKr hRe HRX2 HRA2
    go_wp2
    have p0 : (wr.cell? ⟨w.heap.size + 1, 0, none⟩).isSome = true := by rw [d0]; rfl
    have p1 : (wr.cell? ⟨w.heap.size + 1, 1, none⟩).isSome = true := by rw [d1]; rfl
    have p2 : (wr.cell? ⟨w.heap.size + 1, 2, none⟩).isSome = true := by rw [d2]; rfl
    have p3 : (wr.cell? ⟨w.heap.size + 1, 3, none⟩).isSome = true := by rw [d3]; rfl
    have p4 : (wr.cell? ⟨w.heap.size + 1, 4, none⟩).isSome = true := by rw [d4]; rfl
    have p5 : (wr.cell? ⟨w.heap.size + 1, 5, none⟩).isSome = true := by rw [d5]; rfl
    have p6 : (wr.cell? ⟨w.heap.size + 1, 6, none⟩).isSome = true := by rw [d6]; rfl
    have p7 : (wr.cell? ⟨w.heap.size + 1, 7, none⟩).isSome = true := by rw [d7]; rfl
    have p8 : (wr.cell? ⟨w.heap.size + 1, 8, none⟩).isSome = true := by rw [d8]; rfl
    have p9 : (wr.cell? ⟨w.heap.size + 1, 9, none⟩).isSome = true := by rw [d9]; rfl
    refine bodyPost_ret (v := .tuple #[.agg #[.slice (some ⟨bw, 0, none⟩) ws.length cw, .int .i64 sm, .int .i64 toh, .int .i64 (a.T : Int), .bool false, .int .i64 0, .int .i64 0, .int .i64 0, .int .i64 sr, .slice ar rs.length cr], .int .i64 (n : Int)]) (by simp [results, Tryz.results152, go_sem, p0, p1, p2, p3, p4, p5, p6, p7, p8, p9]) rfl ⟨?_, ?_, ?_⟩
    · rw [HRe.out]
    · rw [HRe.out]
      exact Rw.of_block HWr.out (zc0 (by omega))
    · exact zr6 HKF.out (by omega)
set_option maxHeartbeats 1000000 in
theorem zkx (bw cw : Nat) (ws : List Int) (sm toh top sn old cp sr : Int) (ar : Option Addr) (cr : Nat) (rs : List (Int × Int)) (w : World) :
 Calls Tryz.prog 152 #[.agg #[.slice (some ⟨bw, 0, none⟩) ws.length cw, .int .i64 sm, .int .i64 toh, .int .i64 top, .bool false, .int .i64 sn, .int .i64 old, .int .i64 cp, .int .i64 sr, .slice ar rs.length cr], .int .i64 8000] w fun e w' => e = .returned (.tuple #[.agg #[.slice (some ⟨bw, 0, none⟩) ws.length cw, .int .i64 sm, .int .i64 toh, .int .i64 top, .bool false, .int .i64 sn, .int .i64 old, .int .i64 cp, .int .i64 sr, .slice ar rs.length cr], .int .i64 0]) /\ Below w.heap.size w w' := by
 go_enter Tryz.func152, Tryz.ntmps152
 go_wp2_with fail
 go_loopw [6] (fun u6 wr => u6 = .int .i64 0 /\ wr = (w.alloc (.cells #[.slice (some ⟨bw, 0, none⟩) ws.length cw, .int .i64 sm, .int .i64 toh, .int .i64 top, .bool false, .int .i64 sn, .int .i64 old, .int .i64 cp, .int .i64 sr, .slice ar rs.length cr] 30)).alloc (.cells #[.slice none 0 0, .int .i64 0, .int .i64 0, .int .i64 0, .bool false, .int .i64 0, .int .i64 0, .int .i64 0, .int .i64 0, .slice none 0 0] 30)) (fun _ _ => 0)
 case atStart => exact ⟨rfl, rfl⟩
 case round =>
  obtain ⟨rfl, rfl⟩ := hrel
  go_wp2
  exact bodyPost_ret (v := .tuple #[.agg #[.slice (some ⟨bw, 0, none⟩) ws.length cw, .int .i64 sm, .int .i64 toh, .int .i64 top, .bool false, .int .i64 sn, .int .i64 old, .int .i64 cp, .int .i64 sr, .slice ar rs.length cr], .int .i64 0]) (by simp [results, Tryz.results152, go_sem]) rfl ⟨rfl, ((Below.refl _ _).alloc (Nat.le_refl _) _).alloc (by simp) _⟩
set_option maxHeartbeats 1000000 in
theorem zn3 (bw cw : Nat) (ws : List Int) (sm toh top sn old cp sr : Int) (ar : Option Addr) (cr : Nat) (rs : List (Int × Int)) (w : World) :
 Calls Tryz.prog 106 #[.agg #[.slice (some ⟨bw, 0, none⟩) ws.length cw, .int .i64 sm, .int .i64 toh, .int .i64 top, .bool false, .int .i64 sn, .int .i64 old, .int .i64 cp, .int .i64 sr, .slice ar rs.length cr]] w fun e w' => e = .returned (.tuple #[.agg #[.slice (some ⟨bw, 0, none⟩) ws.length cw, .int .i64 sm, .int .i64 toh, .int .i64 top, .bool false, .int .i64 sn, .int .i64 old, .int .i64 cp, .int .i64 sr, .slice ar rs.length cr], .int .i64 0]) /\ Below w.heap.size w w' := by
 go_enter Tryz.func106, Tryz.ntmps106
 go_wp2_with fail
 refine (zhk _ _ _ _ _ _ _ _ _ _ _ _ _ _ _ (by simp)).mono ?_
 rintro e w1 ⟨rfl, b1⟩
 obtain ⟨_, RX1⟩ := zdb (n := 10) b1 (by simp) rfl rfl
 have B1 := zo b1
 have z1 := zcp b1
 clear b1
 go_wp2_with fail
 refine (zkx _ _ _ _ _ _ _ _ _ _ _ _ _ _).mono ?_
 rintro e w2 ⟨rfl, b2⟩
 have RX2 := RX1.of_block (b2.block _ RX1.lt)
 obtain ⟨d0, d1, d2, d3, d4, d5, d6, d7, d8, d9⟩ := zd7 RX2 rfl rfl rfl rfl rfl rfl rfl rfl rfl rfl
 simp at d0 d1 d2 d3 d4 d5 d6 d7 d8 d9
 have fx := RX2.frozen
 have HB : Hid (Below w.heap.size w w2) := zc B1 b2
 clear b2 RX1 RX2 B1
 go_wp2
 have p0 : (w2.cell? ⟨w.heap.size + 1, 0, none⟩).isSome = true := by rw [d0]; rfl
 have p1 : (w2.cell? ⟨w.heap.size + 1, 1, none⟩).isSome = true := by rw [d1]; rfl
 have p2 : (w2.cell? ⟨w.heap.size + 1, 2, none⟩).isSome = true := by rw [d2]; rfl
 have p3 : (w2.cell? ⟨w.heap.size + 1, 3, none⟩).isSome = true := by rw [d3]; rfl
 have p4 : (w2.cell? ⟨w.heap.size + 1, 4, none⟩).isSome = true := by rw [d4]; rfl
 have p5 : (w2.cell? ⟨w.heap.size + 1, 5, none⟩).isSome = true := by rw [d5]; rfl
 have p6 : (w2.cell? ⟨w.heap.size + 1, 6, none⟩).isSome = true := by rw [d6]; rfl
 have p7 : (w2.cell? ⟨w.heap.size + 1, 7, none⟩).isSome = true := by rw [d7]; rfl
 have p8 : (w2.cell? ⟨w.heap.size + 1, 8, none⟩).isSome = true := by rw [d8]; rfl
 have p9 : (w2.cell? ⟨w.heap.size + 1, 9, none⟩).isSome = true := by rw [d9]; rfl
 refine bodyPost_ret (v := .tuple #[.agg #[.slice (some ⟨bw, 0, none⟩) ws.length cw, .int .i64 sm, .int .i64 toh, .int .i64 top, .bool false, .int .i64 sn, .int .i64 old, .int .i64 cp, .int .i64 sr, .slice ar rs.length cr], .int .i64 0]) (by simp [results, Tryz.results106, go_sem, p0, p1, p2, p3, p4, p5, p6, p7, p8, p9]) rfl ⟨rfl, ?_⟩
 exact zcr HB.out (by omega)
theorem ztv (bw cw : Nat) (ws : List Int) (sm toh top sn old cp sr : Int) (ar : Option Addr) (cr : Nat) (rs : List (Int × Int)) (w : World) {S E F Od sc T C : Nat} {L O : List Nat} {R : Cp × Nat} (hW : RwW w bw ws) (hC : Cyc ⟨ws, T, C⟩ S E F Od sc 0 L O) (hH : zby sm toh S E F Od) (hCT : C <= T + 8000) (hE8 : E <= 8000) (hR : R = zbk S E ⟨ws, T, C⟩ sc 0) :
 ∃ V, Calls Tryz.prog 148 #[.agg #[.slice (some ⟨bw, 0, none⟩) ws.length cw, .int .i64 sm, .int .i64 toh, .int .i64 (T : Int), .bool true, .int .i64 (sc : Int), .int .i64 old, .int .i64 (C : Int), .int .i64 sr, .slice ar rs.length cr]] w (fun e w' => e = .returned V /\ Below w.heap.size w w') /\ ∀ W, RwW W bw ws -> Calls Tryz.prog 152 #[V, .int .i64 8000] W fun e w' => e = .returned (.tuple #[.agg #[.slice (some ⟨bw, 0, none⟩) ws.length cw, .int .i64 sm, .int .i64 toh, .int .i64 (R.1.T : Int), .bool false, .int .i64 0, .int .i64 0, .int .i64 0, .int .i64 sr, .slice ar rs.length cr], .int .i64 (R.2 : Int)]) /\ RwW w' bw R.1.ws /\ Kp [bw] W w' := by
 by_cases h : sc = T
 · subst h
   refine ⟨_, zjc _ _ _ _ _ _ _ _ _ _ _ _ _, fun W hW => ?_⟩
   have e : R = (⟨ws, sc, C⟩, 0) := by rw [hR, ze1 _ _ _ _ _ rfl]
   subst e
   refine (zkx _ _ _ _ _ _ _ _ _ _ _ _ _ _).mono ?_
   rintro e w' ⟨rfl, b⟩
   exact ⟨rfl, Rw.below hW b, Kp.of_below b⟩
 · refine ⟨_, zhk _ _ _ _ _ _ _ _ _ _ _ _ _ _ _ (by intro g; exact h (by have := g.2; omega)), fun W hW => ?_⟩
   exact zpv _ _ _ _ _ _ _ _ _ _ _ _ _ _ hW hC h hH hCT hE8 hR
set_option maxHeartbeats 1000000 in
theorem zlz (bw cw : Nat) (ws : List Int) (sm toh top sn old cp sr : Int) (ar : Option Addr) (cr : Nat) (rs : List (Int × Int)) (w : World) {S E F Od sc T C : Nat} {L O : List Nat} {R : Cp × Nat} (hW : RwW w bw ws) (hC : Cyc ⟨ws, T, C⟩ S E F Od sc 0 L O) (hH : zby sm toh S E F Od) (hCT : C <= T + 8000) (hE8 : E <= 8000) (hR : R = zbk S E ⟨ws, T, C⟩ sc 0) :
 Calls Tryz.prog 106 #[.agg #[.slice (some ⟨bw, 0, none⟩) ws.length cw, .int .i64 sm, .int .i64 toh, .int .i64 (T : Int), .bool true, .int .i64 (sc : Int), .int .i64 old, .int .i64 (C : Int), .int .i64 sr, .slice ar rs.length cr]] w fun e w' => e = .returned (.tuple #[.agg #[.slice (some ⟨bw, 0, none⟩) ws.length cw, .int .i64 sm, .int .i64 toh, .int .i64 (R.1.T : Int), .bool false, .int .i64 0, .int .i64 0, .int .i64 0, .int .i64 sr, .slice ar rs.length cr], .int .i64 (R.2 : Int)]) /\ RwW w' bw R.1.ws /\ Kp [bw] w w' := by
 have HOV : Hid (∀ W, RwW W bw ws -> ∃ V, Calls Tryz.prog 148 #[.agg #[.slice (some ⟨bw, 0, none⟩) ws.length cw, .int .i64 sm, .int .i64 toh, .int .i64 (T : Int), .bool true, .int .i64 (sc : Int), .int .i64 old, .int .i64 (C : Int), .int .i64 sr, .slice ar rs.length cr]] W (fun e w' => e = .returned V /\ Below W.heap.size W w') /\ ∀ W', RwW W' bw ws -> Calls Tryz.prog 152 #[V, .int .i64 8000] W' fun e w' => e = .returned (.tuple #[.agg #[.slice (some ⟨bw, 0, none⟩) ws.length cw, .int .i64 sm, .int .i64 toh, .int .i64 (R.1.T : Int), .bool false, .int .i64 0, .int .i64 0, .int .i64 0, .int .i64 sr, .slice ar rs.length cr], .int .i64 (R.2 : Int)]) /\ RwW w' bw R.1.ws /\ Kp [bw] W' w') := fun W hW => ztv bw cw ws sm toh top sn old cp sr ar cr rs W hW hC hH hCT hE8 hR
 have HW : Hid (RwW w bw ws) := hW
 have hbw := hW.lt
 clear hW hC hH hR hCT hE8
 go_enter Tryz.func106, Tryz.ntmps106
 go_wp2_with fail
 obtain ⟨V, hV1, hV2⟩ := HOV.out _ (Rw.below HW.out (((Below.refl _ _).alloc (Nat.le_refl _) _).alloc (by simp) _))
 refine hV1.mono ?_
 rintro e w1 ⟨rfl, b1⟩
 obtain ⟨_, RX1⟩ := zdb (n := 10) b1 (by simp) rfl rfl
 have B1 := zo b1
 have z1 := zcp b1
 have HW1 : Hid (RwW w1 bw ws) := Rw.below HW.out B1
 have HV2 : Hid (∀ W', RwW W' bw ws -> Calls Tryz.prog 152 #[V, .int .i64 8000] W' fun e w' => e = .returned (.tuple #[.agg #[.slice (some ⟨bw, 0, none⟩) ws.length cw, .int .i64 sm, .int .i64 toh, .int .i64 (R.1.T : Int), .bool false, .int .i64 0, .int .i64 0, .int .i64 0, .int .i64 sr, .slice ar rs.length cr], .int .i64 (R.2 : Int)]) /\ RwW w' bw R.1.ws /\ Kp [bw] W' w') := hV2
 clear b1 hV1 hV2 HOV
 go_wp2_with fail
 refine (HV2.out _ HW1.out).mono ?_
 rintro e w2 ⟨rfl, hW2, k2⟩
 have RX2 := RX1.of_block (k2.block _ RX1.lt (by simp; omega))
 obtain ⟨d0, d1, d2, d3, d4, d5, d6, d7, d8, d9⟩ := zd7 RX2 rfl rfl rfl rfl rfl rfl rfl rfl rfl rfl
 simp at d0 d1 d2 d3 d4 d5 d6 d7 d8 d9
 have fx := RX2.frozen
 have HK : Hid (Kp [bw] w w2) := (Kp.of_below B1).trans k2
 have HW2 : Hid (RwW w2 bw R.1.ws) := hW2
 clear k2 RX1 RX2 B1 hW2 HV2
 go_wp2
 have p0 : (w2.cell? ⟨w.heap.size + 1, 0, none⟩).isSome = true := by rw [d0]; rfl
 have p1 : (w2.cell? ⟨w.heap.size + 1, 1, none⟩).isSome = true := by rw [d1]; rfl
 have p2 : (w2.cell? ⟨w.heap.size + 1, 2, none⟩).isSome = true := by rw [d2]; rfl
 have p3 : (w2.cell? ⟨w.heap.size + 1, 3, none⟩).isSome = true := by rw [d3]; rfl
 have p4 : (w2.cell? ⟨w.heap.size + 1, 4, none⟩).isSome = true := by rw [d4]; rfl
 have p5 : (w2.cell? ⟨w.heap.size + 1, 5, none⟩).isSome = true := by rw [d5]; rfl
 have p6 : (w2.cell? ⟨w.heap.size + 1, 6, none⟩).isSome = true := by rw [d6]; rfl
 have p7 : (w2.cell? ⟨w.heap.size + 1, 7, none⟩).isSome = true := by rw [d7]; rfl
 have p8 : (w2.cell? ⟨w.heap.size + 1, 8, none⟩).isSome = true := by rw [d8]; rfl
 have p9 : (w2.cell? ⟨w.heap.size + 1, 9, none⟩).isSome = true := by rw [d9]; rfl
 refine bodyPost_ret (v := .tuple #[.agg #[.slice (some ⟨bw, 0, none⟩) ws.length cw, .int .i64 sm, .int .i64 toh, .int .i64 (R.1.T : Int), .bool false, .int .i64 0, .int .i64 0, .int .i64 0, .int .i64 sr, .slice ar rs.length cr], .int .i64 (R.2 : Int)]) (by simp [results, Tryz.results106, go_sem, p0, p1, p2, p3, p4, p5, p6, p7, p8, p9]) rfl ⟨rfl, ?_, ?_⟩
 · exact Rw.of_block HW2.out (zc0 (by omega))
 · exact zr6 HK.out (by omega)
open Go.RowKit Go.Shelf
attribute [local go_sem] Oper.semAt_some
def zu8 (w5 : World) (ba bw cw : Nat) (ws : List Int) (sm toh : Int) (T sc : Nat) (old : Int) (C : Nat) (sr : Int) (ar : Option Addr) (cr : Nat) (rs : List (Int × Int)) (S E F Od : Nat) (O : List Nat) (N : Nat) (pre : List (Fin N)) (V : World) : Prop :=
 ∃ (a' : Cp) (L' : List Nat), Cyc a' S E F Od sc 0 L' O /\ sc ∈ L' /\ za a'.ws sc = za ws sc /\ a'.ws.length = ws.length /\ a'.C <= a'.T + 8000 /\ (pre = (List.finRange N).take pre.length -> a' = zbs S sc ⟨ws, T, C⟩ pre.length) /\ V.rowIs ba 30 10 (fun i => (#[.slice (some ⟨bw, 0, none⟩) ws.length cw, .int .i64 sm, .int .i64 toh, .int .i64 (a'.T : Int), .bool true, .int .i64 (sc : Int), .int .i64 old, .int .i64 (a'.C : Int), .int .i64 sr, .slice ar rs.length cr] : Array Value).getD i (.bool false)) /\ RwW V bw a'.ws /\ Kp [ba, bw] w5 V
theorem zlx {X : List Nat} {w5 W W' : World} {row : Option Nat} (h : Kp X w5 W) (hg : W.grownBy W' row) (hr : ∀ r, row = some r -> w5.heap.size <= r) : Kp X w5 W' :=
 ⟨hg.os.trans h.os, hg.tape.trans h.tape, hg.output.trans h.output, Nat.le_trans h.size hg.size, fun k hk hn => (hg.block k (Nat.lt_of_lt_of_le hk h.size) (fun e => by have := hr k e.symm; omega)).trans (h.block k hk hn)⟩
theorem zr5 {w5 : World} {ba bw cw : Nat} {ws : List Int} {sm toh : Int} {T sc : Nat} {old : Int} {C : Nat} {sr : Int} {ar : Option Addr} {cr : Nat} {rs : List (Int × Int)} {S E F Od : Nat} {O : List Nat} {N : Nat} (h1 : ba < w5.heap.size) (h2 : bw < w5.heap.size) : OwnFrom w5.heap.size (zu8 w5 ba bw cw ws sm toh T sc old C sr ar cr rs S E F Od O N) := by
 rintro s W W' row ⟨a', L', c1, c2, c3, c4, c5, c6, r1, r2, k⟩ hg hr
 have hne : ∀ x, x < w5.heap.size -> some x ≠ row := fun x hx e => by have := (hr x e.symm).1; omega
 exact ⟨a', L', c1, c2, c3, c4, c5, c6, r1.of_block (hg.block ba r1.lt (hne ba h1)), Rw.of_block r2 (hg.block bw r2.lt (hne bw h2)), zlx k hg (fun r e => (hr r e).1)⟩
theorem ztu {N : Nat} {pre : List (Fin N)} {x : Fin N} (h : pre ++ [x] = (List.finRange N).take (pre ++ [x]).length) : pre = (List.finRange N).take pre.length /\ (x : Nat) = pre.length := by
 have hl : pre.length + 1 <= N := by
  have := congrArg List.length h
  simp at this
  omega
 have hlt : pre.length < N := by omega
 rw [List.length_append, List.length_singleton, zfh hlt] at h
 have h2 := List.append_inj' h rfl
 refine ⟨h2.1, ?_⟩
 have := h2.2
 simp at this
 rw [this]
theorem zpb {V : World} {b n : Nat} {t : TypeId} {f : Nat -> Value} (h : V.rowIs b t n f) : ∃ o : Obj, V.heap[b]? = some o /\ o.isCells = true := by
 obtain ⟨A, hA, _⟩ := h
 exact ⟨_, hA, rfl⟩
theorem zjb {V V' : World} {ba bw : Nat} (h : Kp [ba, bw] V V') (h1 : ∃ o : Obj, V.heap[ba]? = some o /\ o.isCells = true) (h2 : ∃ o : Obj, V.heap[bw]? = some o /\ o.isCells = true) : KeepsOthers V V' :=
 ⟨h.size, fun k o hk ho => by
  have hn : k ∉ [ba, bw] := fun g => by
   simp at g
   rcases g with rfl | rfl
   · obtain ⟨u, hu, hc⟩ := h1; rw [hu] at hk; cases hk; rw [hc] at ho; simp at ho
   · obtain ⟨u, hu, hc⟩ := h2; rw [hu] at hk; cases hk; rw [hc] at ho; simp at ho
  exact (h.block k (Array.getElem?_eq_some_iff.1 hk).1 hn).trans hk⟩
theorem zly {X : List Nat} {V V' : World} (h : Kp X V V') : zbd X V V' := ⟨h.size, fun k o hn hk _ => (h.block k (Array.getElem?_eq_some_iff.1 hk).1 hn).trans hk⟩
set_option maxRecDepth 100000 in
set_option maxHeartbeats 4000000 in
theorem zik (ba bw cw : Nat) (ws : List Int) (sm toh : Int) (T sc : Nat) (old : Int) (C : Nat) (sr : Int) (ar : Option Addr) (cr : Nat) (rs : List (Int × Int)) (w : World) {S E F Od : Nat} {L O : List Nat} (hA : w.rowIs ba 30 10 (fun i => (#[.slice (some ⟨bw, 0, none⟩) ws.length cw, .int .i64 sm, .int .i64 toh, .int .i64 (T : Int), .bool true, .int .i64 (sc : Int), .int .i64 old, .int .i64 (C : Int), .int .i64 sr, .slice ar rs.length cr] : Array Value).getD i (.bool false))) (hW : RwW w bw ws) (hab : ba ≠ bw) (hcw : ws.length <= cw) (hC : Cyc ⟨ws, T, C⟩ S E F Od sc 0 L O) (hsc : sc ∈ L) (hH : zby sm toh S E F Od) (hCT : C <= T + 8000) (hE8 : E <= 8000) :
 Calls Tryz.prog 183 #[.pointer (some ⟨ba, 0, none⟩)] w fun e w' => e = .returned (.tuple #[]) /\ w'.rowIs ba 30 10 (fun i => (#[.slice (some ⟨bw, 0, none⟩) ws.length cw, .int .i64 sm, .int .i64 toh, .int .i64 ((zcs S sc ⟨ws, T, C⟩).T : Int), .bool true, .int .i64 ((sc + szA ws sc : Nat) : Int), .int .i64 old, .int .i64 ((zcs S sc ⟨ws, T, C⟩).C : Int), .int .i64 sr, .slice ar rs.length cr] : Array Value).getD i (.bool false)) /\ RwW w' bw (zcs S sc ⟨ws, T, C⟩).ws /\ Kp [ba, bw] w w' := by
 refine (callsIn_wide (n := 4)).1 ?_
 refine callsIn_of_wp_marks Tryz.func183 rfl trivial ?_ rfl
 simp only [Tryz.ntmps183, List.size_toArray, List.length_cons, List.length_nil, Nat.reduceAdd, Nat.reduceSub, Array.replicate_succ, Array.replicate_zero, List.push_toArray, List.append_toArray, List.nil_append, List.cons_append]
 have KA := zl hA rfl
 have HA : Hid (w.rowIs ba 30 10 (fun i => (#[.slice (some ⟨bw, 0, none⟩) ws.length cw, .int .i64 sm, .int .i64 toh, .int .i64 (T : Int), .bool true, .int .i64 (sc : Int), .int .i64 old, .int .i64 (C : Int), .int .i64 sr, .slice ar rs.length cr] : Array Value).getD i (.bool false))) := hA
 have HW : Hid (RwW w bw ws) := hW
 have HC : Hid (Cyc ⟨ws, T, C⟩ S E F Od sc 0 L O) := hC
 have HH : Hid (zby sm toh S E F Od) := hH
 have lba := hA.lt
 have lbw := hW.lt
 clear hA hW hC hH
 have hw64 := HC.out.w64
 have hsm := HC.out.small
 have hTE := HC.out.TE
 have hEl := HC.out.hE
 dsimp only at hw64 hsm hTE hEl
 obtain ⟨q1, q2, q3⟩ := HC.out.inL hsc
 dsimp only at q1 q2 q3
 unfold szA at q3
 have hk16 : 1 <= rdK (za ws sc) /\ rdK (za ws sc) <= 6 := by
  have h := of_decide_eq_true (zdw q2)
  omega
 obtain ⟨fF, hmF, hfF, henF⟩ := zj1 hk16.1 hk16.2
 have hS0 := zau (za ws sc)
 have hfg := zlv (rdK (za ws sc))
 obtain ⟨N, hN⟩ : ∃ N, N = zay ws sc := ⟨_, rfl⟩
 have HNs : Hid (∀ m : Nat, fs (rdK (za ws sc)) + 2 * m < rdS (za ws sc) ↔ m < N) := fun m => by rw [hN]; exact zff (zdw q2) m
 obtain ⟨w0, hw0⟩ : ∃ w0, w0 = w.alloc (.cells #[.pointer (some ⟨ba, 0, none⟩)] 114) := ⟨_, rfl⟩
 have B0 : Below w.heap.size w w0 := by rw [hw0]; exact (Below.refl _ _).alloc (Nat.le_refl _) _
 have z0 : w0.heap.size = w.heap.size + 1 := by rw [hw0]; simp
 have c0 : w0.cell? ⟨w.heap.size, 0, none⟩ = some (.pointer (some ⟨ba, 0, none⟩)) := by rw [hw0]; simp [go_sem]
 have KA0 := ze KA B0 lba
 gi_wp2_with fail
 rw [<- hw0]
 clear hw0
 have KP : ∀ V, Below w0.heap.size w0 V -> (Below w0.heap.size w0 V /\ V.cell? ⟨w.heap.size, 0, none⟩ = some (.pointer (some ⟨ba, 0, none⟩)) /\ (∀ i, V.cell? ⟨ba, i, none⟩ = (#[.slice (some ⟨bw, 0, none⟩) ws.length cw, .int .i64 sm, .int .i64 toh, .int .i64 (T : Int), .bool true, .int .i64 (sc : Int), .int .i64 old, .int .i64 (C : Int), .int .i64 sr, .slice ar rs.length cr] : Array Value)[i]?)) := fun V hV => ⟨hV, by rw [hV.cell (p := ⟨w.heap.size, 0, none⟩) (by show w.heap.size < w0.heap.size; omega)]; exact c0, ze KA0 hV (by omega)⟩
 have b0' := (Below.refl w0.heap.size w0).drew
 refine wpIn_wide.2 ?_
 go_region_held3 (fun V => Below w0.heap.size w0 V /\ V.cell? ⟨w.heap.size, 0, none⟩ = some (.pointer (some ⟨ba, 0, none⟩)) /\ (∀ i, V.cell? ⟨ba, i, none⟩ = (#[.slice (some ⟨bw, 0, none⟩) ws.length cw, .int .i64 sm, .int .i64 toh, .int .i64 (T : Int), .bool true, .int .i64 (sc : Int), .int .i64 old, .int .i64 (C : Int), .int .i64 sr, .slice ar rs.length cr] : Array Value)[i]?)) (first | assumption | exact KP _ b0' | exact KP _ (by assumption) | (refine KP _ ?_; repeat (first | exact b0' | exact Below.refl _ _ | assumption | refine Below.drew ?_ | refine zbp ?_ _))) (first | (go_at_call 157; refine (zj2 _ _ _ _ _ _ _ _ _ _ _ _ _ _ _ _ _).mono ?_; rintro e w' ⟨rfl, rfl⟩))
 obtain ⟨w5, hw5⟩ : ∃ w5, w5 = ((w0.alloc (.cells #[.slice (some ⟨bw, 0, none⟩) ws.length cw, .int .i64 sm, .int .i64 toh, .int .i64 (T : Int), .bool true, .int .i64 (sc : Int), .int .i64 old, .int .i64 (C : Int), .int .i64 sr, .slice ar rs.length cr] 30)).alloc (.cells #[.int .i64 (sc : Int)] 3)).drew := ⟨_, rfl⟩
 have B5 : Below w0.heap.size w0 w5 := by rw [hw5]; exact (((Below.refl _ _).alloc (Nat.le_refl _) _).alloc (by simp) _).drew
 have z5 : w5.heap.size = w0.heap.size + 1 + 1 := by rw [hw5]; simp
 have ca : ∀ i, w5.cell? ⟨w.heap.size + 1, i, none⟩ = (#[.slice (some ⟨bw, 0, none⟩) ws.length cw, .int .i64 sm, .int .i64 toh, .int .i64 (T : Int), .bool true, .int .i64 (sc : Int), .int .i64 old, .int .i64 (C : Int), .int .i64 sr, .slice ar rs.length cr] : Array Value)[i]? := fun i => by rw [hw5, <- z0]; simp [go_sem]
 have ct : w5.cell? ⟨w.heap.size + 1 + 1, 0, none⟩ = some (.int .i64 (sc : Int)) := by rw [hw5, <- z0]; simp [go_sem]
 rw [<- hw5]
 clear hw5 b0' KP
 have BW5 : Below w.heap.size w w5 := zc B0 B5
 have HW5 : Hid (RwW w5 bw ws) := Rw.below HW.out BW5
 have HA5 : Hid (w5.rowIs ba 30 10 (fun i => (#[.slice (some ⟨bw, 0, none⟩) ws.length cw, .int .i64 sm, .int .i64 toh, .int .i64 (T : Int), .bool true, .int .i64 (sc : Int), .int .i64 old, .int .i64 (C : Int), .int .i64 sr, .slice ar rs.length cr] : Array Value).getD i (.bool false))) := HA.out.of_block (BW5.block _ lba)
 have c5 : w5.cell? ⟨w.heap.size, 0, none⟩ = some (.pointer (some ⟨ba, 0, none⟩)) := by rw [B5.cell (p := ⟨w.heap.size, 0, none⟩) (by show w.heap.size < w0.heap.size; omega)]; exact c0
 have hstops := zn1 [ba, bw] 3 (by omega) bw 0 cw ws sm toh (T : Int) true (sc : Int) old (C : Int) sr ar cr rs (w.heap.size + 1) (w.heap.size + 1 + 1) sc N fF (rdK (za ws sc)) (rdS (za ws sc)) (fs (rdK (za ws sc))) (zd1 (rdK (za ws sc))) w5 (by intro x hx; simp at hx; omega) (by simp; omega) (by omega) ca ct HW5.out.lt (fun i hi => by rw [Nat.zero_add]; exact HW5.out.cell hi) (by omega) hw64 (by omega) rfl rfl hS0.1 (by omega) hfg.1 hfg.2 HNs.out rfl hmF hfF henF
 clear ca ct c0 KA0 KA
 gi_wp2_with fail
 refine wpIn_rangeFunc_ownF rfl (by omega) (gf := 184) (lb := #[.pointer (some ⟨w.heap.size + 1, 0, none⟩), .pointer (some ⟨w.heap.size + 1 + 1, 0, none⟩)]) rfl trivial (enters_of Tryz.func184 (by kernel_rfl) rfl) hstops zbd.trans (fun W l o o' _ h ho _ => zbd.putObj _ W l o o' h ho) (Below.refl _ _) (fun _ => rfl)
  (zu8 w5 ba bw cw ws sm toh T sc old C sr ar cr rs S E F Od O N)
  (fun _ _ _ => False)
  (zr5 (by omega) (by omega)) (fun _ _ _ _ _ h _ _ => h)
  ⟨⟨ws, T, C⟩, L, HC.out, hsc, rfl, rfl, hCT, fun _ => rfl, HA5.out, HW5.out, Kp.refl _ _⟩
  (fun x => { tmps := #[.pointer (some ⟨ba, 0, none⟩), .pointer (some ⟨w.heap.size, 0, none⟩), undef, .int .i64 ((sc : Int) + fs (rdK (za ws sc)) + 2 * ((x : Nat) : Int)), .pointer (some ⟨ba, 0, none⟩), .pointer (some ⟨ba, 0, none⟩), .agg #[.slice (some ⟨bw, 0, none⟩) ws.length cw, .int .i64 sm, .int .i64 toh, .int .i64 (T : Int), .bool true, .int .i64 (sc : Int), .int .i64 old, .int .i64 (C : Int), .int .i64 sr, .slice ar rs.length cr], .pointer (some ⟨ba, 0, none⟩), .pointer (some ⟨ba, 0, none⟩), .pointer (some ⟨ba, 5, none⟩), .int .i64 (sc : Int), .func (.func 184) #[] #[.pointer (some ⟨w.heap.size + 1, 0, none⟩), .pointer (some ⟨w.heap.size + 1 + 1, 0, none⟩)], .int .i64 ((x : Nat) : Int), .int .i64 ((sc : Int) + fs (rdK (za ws sc)) + 2 * ((x : Nat) : Int)), undef, undef, undef, undef, undef, undef, undef, undef, undef, undef, undef, undef, undef, undef, undef, undef, undef, undef, undef, undef, undef, undef, undef, undef, undef, undef, undef, undef], defers := [] }) ?assign ?body ?done ?stop
 case assign =>
  intro l x W K hK
  gi_wp2
  exact hK
 case body =>
  rintro l pre x V ⟨a', L', hCa, hsL, hhd, hlen, hle, hord, hRa, hRw, hKp⟩ hpl
  obtain ⟨wsk, Tk, Ck⟩ := a'
  dsimp only at hhd hlen hle hRa hRw
  have hN' : zay wsk sc = N := by rw [hN]; simp [zay, hhd]
  have hJ : (x : Nat) < zay wsk sc := by rw [hN']; exact x.2
  obtain ⟨p1, p2, p3⟩ := hCa.inL hsL
  obtain ⟨x1, x2⟩ := ze2 p2 hJ
  dsimp only at p1 p2 p3 x1 x2
  unfold szA at p3
  have hTEk := hCa.TE
  have hEk := hCa.hE
  have hwk := hCa.w64
  dsimp only at hTEk hEk hwk
  have href := hCa.slot_ref hsL hJ
  have hok := (hCa.slL sc hsL x hJ).1
  dsimp only at href hok
  obtain ⟨X, hX⟩ : ∃ X, X = zu wsk sc x := ⟨_, rfl⟩
  rw [<- hX] at x1 x2 href hok
  have hXY : (sc : Int) + fs (rdK (za ws sc)) + 2 * ((x : Nat) : Int) = (X : Int) := by
   have e : X = sc + (fs (rdK (za ws sc)) + 2 * ((x : Nat) : Int)).toNat := by rw [hX]; simp [zu, hhd]
   omega
  obtain ⟨t, ht⟩ : ∃ t, t = rvT wsk X := ⟨_, rfl⟩
  obtain ⟨m, hm⟩ : ∃ m, m = rvN wsk X := ⟨_, rfl⟩
  obtain ⟨a2, ha2⟩ : ∃ y, y = zam S ⟨wsk, Tk, Ck⟩ t m := ⟨_, rfl⟩
  obtain ⟨m2, hm2⟩ : ∃ y, y = zbf S ⟨wsk, Tk, Ck⟩ t m := ⟨_, rfl⟩
  have HST : Hid (zbb S sc ⟨wsk, Tk, Ck⟩ x = ⟨a2.ws.set (X + 1) (IntKind.u64.wrap m2), a2.T, a2.C⟩) := by
   show zbb S sc ⟨wsk, Tk, Ck⟩ x = _
   simp only [zbb, <- hX, <- ht, <- hm, <- ha2, <- hm2]
  rw [<- ht, <- hm] at href
  have hsame := hCa.fwd_same href
  rw [<- ha2] at hsame
  dsimp only at hsame
  have hwX := zw hwk X
  have htw : IntKind.u64.wrap t = za a2.ws X := by
   have e1 : rvT wsk X = za wsk X := by simp [rvT, hok]
   rw [hsame.2 X (by omega) (by omega), ht, e1, zpf hwX.1 hwX.2]
  have HSA : Hid (∀ W, RwW W bw wsk -> Calls Tryz.prog 158 #[.agg #[.slice (some ⟨bw, 0, none⟩) ws.length cw, .int .i64 sm, .int .i64 toh, .int .i64 (Tk : Int), .bool true, .int .i64 (sc : Int), .int .i64 old, .int .i64 (Ck : Int), .int .i64 sr, .slice ar rs.length cr], .int .i64 ((sc : Int) + fs (rdK (za ws sc)) + 2 * ((x : Nat) : Int))] W fun e w' => e = .returned (.agg #[.int .i64 t, .int .i64 m]) /\ Below W.heap.size W w') := fun W hW => by
   rw [<- hlen, ht, hm]
   exact zgc _ _ _ _ _ _ _ _ _ _ _ _ _ _ _ X _ hXY (RwW.sl hW cw) (by omega) hwk (by omega)
  have HFO : Hid (∀ W, W.rowIs ba 30 10 (fun i => (#[.slice (some ⟨bw, 0, none⟩) ws.length cw, .int .i64 sm, .int .i64 toh, .int .i64 (Tk : Int), .bool true, .int .i64 (sc : Int), .int .i64 old, .int .i64 (Ck : Int), .int .i64 sr, .slice ar rs.length cr] : Array Value).getD i (.bool false)) -> RwW W bw wsk -> Calls Tryz.prog 150 #[.pointer (some ⟨ba, 0, none⟩), .agg #[.int .i64 t, .int .i64 m]] W fun e w' => e = .returned (.agg #[.int .i64 t, .int .i64 m2]) /\ w'.rowIs ba 30 10 (fun i => (#[.slice (some ⟨bw, 0, none⟩) ws.length cw, .int .i64 sm, .int .i64 toh, .int .i64 (a2.T : Int), .bool true, .int .i64 (sc : Int), .int .i64 old, .int .i64 (a2.C : Int), .int .i64 sr, .slice ar rs.length cr] : Array Value).getD i (.bool false)) /\ RwW w' bw a2.ws /\ Kp [ba, bw] W w') := fun W hA hW => by
   rw [ha2, hm2]
   rw [<- hlen] at hA ⊢
   exact zrv ba bw cw wsk sm toh Tk true (sc : Int) old Ck sr ar cr rs t m W hA hW hab (by omega) hCa HH.out href (by omega)
  have HLV : Hid (∀ W, RwW W bw a2.ws -> Calls Tryz.prog 199 #[.slice (some ⟨bw, 0, none⟩) ws.length cw, .int .i64 ((sc : Int) + fs (rdK (za ws sc)) + 2 * ((x : Nat) : Int)), .agg #[.int .i64 t, .int .i64 m2]] W fun e w' => e = .returned (.tuple #[]) /\ RwW w' bw (a2.ws.set (X + 1) (IntKind.u64.wrap m2)) /\ Kp [bw] W w') := fun W hW => by
   rw [hXY]
   have hW' := hW
   obtain ⟨M, g, hM, hr, hg⟩ := hW
   refine (zru bw M cw X ws.length g t m2 W hr (by omega) (by omega) (by omega)).mono ?_
   rintro e w' ⟨rfl, rfl⟩
   refine ⟨rfl, ?_, ((Kp.refl _ _).setCell (p := ⟨bw, X, none⟩) (.inl (by simp)) _ |>.setCell (p := ⟨bw, X + 1, none⟩) (.inl (by simp)) _).alloc _⟩
   have h1 := RwW.set hW' (i := X) (IntKind.u64.wrap t) (by omega)
   rw [zmd (by omega) htw.symm] at h1
   have h2 := RwW.set h1 (i := X + 1) (IntKind.u64.wrap m2) (by omega)
   exact Rw.below h2 ((Below.refl _ _).alloc (Nat.le_refl _) _)
  have cV : V.cell? ⟨w.heap.size, 0, none⟩ = some (.pointer (some ⟨ba, 0, none⟩)) := by rw [hKp.cell (p := ⟨w.heap.size, 0, none⟩) (by show w.heap.size < w5.heap.size; omega) (by simp; omega)]; exact c5
  have lV : w.heap.size < V.heap.size := Nat.lt_of_lt_of_le (by omega : w.heap.size < w5.heap.size) hKp.size
  have KAV := zl hRa rfl
  have k0 := KAV 0
  simp at k0
  have KPV : ∀ V', Kp [ba, bw] V V' -> V'.cell? ⟨ba, 0, none⟩ = some (.slice (some ⟨bw, 0, none⟩) ws.length cw) -> (Kp [ba, bw] V V' /\ V'.cell? ⟨w.heap.size, 0, none⟩ = some (.pointer (some ⟨ba, 0, none⟩)) /\ V'.cell? ⟨ba, 0, none⟩ = some (.slice (some ⟨bw, 0, none⟩) ws.length cw)) := fun V' h1 h2 => ⟨h1, by rw [h1.cell (p := ⟨w.heap.size, 0, none⟩) lV (by simp; omega)]; exact cV, h2⟩
  have HNEW : Hid (∃ M, Cyc (zbb S sc ⟨wsk, Tk, Ck⟩ x) S E F Od sc 0 (L' ++ M) O /\ za (zbb S sc ⟨wsk, Tk, Ck⟩ x).ws sc = za wsk sc /\ (zbb S sc ⟨wsk, Tk, Ck⟩ x).ws.length = wsk.length /\ Tk <= (zbb S sc ⟨wsk, Tk, Ck⟩ x).T) := hCa.slotG hsL hJ (fun i _ => .inl (Nat.zero_le _))
  have HLE2 : Hid (a2.C <= a2.T + 8000) := by rw [ha2]; exact zpc hle
  have HORD : Hid (pre = (List.finRange N).take pre.length -> (⟨wsk, Tk, Ck⟩ : Cp) = zbs S sc ⟨ws, T, C⟩ pre.length) := hord
  have HHD : Hid (za wsk sc = za ws sc) := hhd
  have HLEN : Hid (wsk.length = ws.length) := hlen
  have HKp : Hid (Kp [ba, bw] w5 V) := hKp
  have HOB : Hid ((∃ o : Obj, V.heap[ba]? = some o /\ o.isCells = true) /\ (∃ o : Obj, V.heap[bw]? = some o /\ o.isCells = true)) := ⟨zpb hRa, by obtain ⟨M, g, _, hr, _⟩ := hRw; exact zpb hr⟩
  clear hXY hX ht hm ha2 hm2 hsame htw href hok hCa hord hhd hlen hKp hwX hwk hTEk hEk x1 x2 p1 p2 p3 hN' hJ hstops
  gi_wp2_with fail
  refine zj8 (S := fun V' => Kp [ba, bw] V V' /\ V'.cell? ⟨w.heap.size, 0, none⟩ = some (.pointer (some ⟨ba, 0, none⟩)) /\ V'.cell? ⟨ba, 0, none⟩ = some (.slice (some ⟨bw, 0, none⟩) ws.length cw)) (by kernel_rfl) (by kernel_rfl) (by rintro ⟨_, _, h⟩; exact h) (KPV _ (Kp.refl _ _).drew k0) (fun hHeld => ?_)
  obtain ⟨wd, hwd⟩ : ∃ y, y = V.drew := ⟨_, rfl⟩
  rw [<- hwd] at hHeld ⊢
  have hRd : wd.rowIs ba 30 10 (fun i => (#[.slice (some ⟨bw, 0, none⟩) ws.length cw, .int .i64 sm, .int .i64 toh, .int .i64 (Tk : Int), .bool true, .int .i64 (sc : Int), .int .i64 old, .int .i64 (Ck : Int), .int .i64 sr, .slice ar rs.length cr] : Array Value).getD i (.bool false)) := by rw [hwd]; exact hRa
  have hWd : RwW wd bw wsk := by rw [hwd]; exact Rw.drew hRw
  have KAd := zl hRd rfl
  clear hwd
  refine wpAnyH_take (i := 0) (oi := { dst := some 14, op := _, type := _, pos := _, after := _, guard := _ }) (v := .pointer (some ⟨ba, 0, none⟩)) rfl (by kernel_rfl) (by kernel_rfl) (by kernel_rfl) (fun _ _ _ h => h) (Or.inl ⟨by kernel_rfl, ?_⟩) hHeld ?_
  · intro w hSw
    (try dsimp only at hSw)
    go_simp
  try simp only [Act.put, zwo, zwp, zwq]
  refine wpAnyH_take (i := 1) (oi := { dst := some 15, op := _, type := _, pos := _, after := _, guard := _ }) (v := .pointer (some ⟨ba, 0, none⟩)) rfl (by kernel_rfl) (by kernel_rfl) (by kernel_rfl) (fun _ _ _ h => h) (Or.inl ⟨by kernel_rfl, ?_⟩) hHeld ?_
  · intro w hSw
    (try dsimp only at hSw)
    go_simp
  try simp only [Act.put, zwo, zwp, zwq]
  refine wpAnyH_take (i := 2) (oi := { dst := some 16, op := _, type := _, pos := _, after := _, guard := _ }) (v := .pointer (some ⟨ba, 0, none⟩)) rfl (by kernel_rfl) (by kernel_rfl) (by kernel_rfl) (fun _ _ _ h => h) (Or.inl ⟨by kernel_rfl, ?_⟩) hHeld ?_
  · intro w hSw
    (try dsimp only at hSw)
    go_simp
  try simp only [Act.put, zwo, zwp, zwq]
  refine wpAnyH_take (i := 3) (oi := { dst := some 17, op := _, type := _, pos := _, after := _, guard := _ }) (v := .slice (some ⟨bw, 0, none⟩) ws.length cw) rfl (by kernel_rfl) (by kernel_rfl) (by kernel_rfl) (fun _ _ _ h => h) (Or.inl ⟨by kernel_rfl, ?_⟩) hHeld ?_
  · intro w hSw
    (try dsimp only at hSw)
    go_simp
  try simp only [Act.put, zwo, zwp, zwq]
  refine wpAnyH_take (i := 4) (oi := { dst := some 18, op := _, type := _, pos := _, after := _, guard := _ }) (v := .int .i64 ((sc : Int) + fs (rdK (za ws sc)) + 2 * ((x : Nat) : Int))) rfl (by kernel_rfl) (by kernel_rfl) (by kernel_rfl) (fun _ _ _ h => h) (Or.inl ⟨by kernel_rfl, ?_⟩) hHeld ?_
  · intro w hSw
    (try dsimp only at hSw)
    go_simp
  try simp only [Act.put, zwo, zwp, zwq]
  refine wpAnyH_take (i := 5) (oi := { dst := some 19, op := _, type := _, pos := _, after := _, guard := _ }) (v := .pointer (some ⟨ba, 0, none⟩)) rfl (by kernel_rfl) (by kernel_rfl) (by kernel_rfl) (fun _ _ _ h => h) (Or.inl ⟨by kernel_rfl, ?_⟩) hHeld ?_
  · intro w hSw
    (try dsimp only at hSw)
    go_simp
  try simp only [Act.put, zwo, zwp, zwq]
  refine wpAnyH_take (i := 6) (oi := { dst := some 20, op := _, type := _, pos := _, after := _, guard := _ }) (v := .pointer (some ⟨ba, 0, none⟩)) rfl (by kernel_rfl) (by kernel_rfl) (by kernel_rfl) (fun _ _ _ h => h) (Or.inl ⟨by kernel_rfl, ?_⟩) hHeld ?_
  · intro w hSw
    (try dsimp only at hSw)
    go_simp
  try simp only [Act.put, zwo, zwp, zwq]
  refine wpAnyH_take (i := 7) (oi := { dst := some 21, op := _, type := _, pos := _, after := _, guard := _ }) (v := .pointer (some ⟨ba, 0, none⟩)) rfl (by kernel_rfl) (by kernel_rfl) (by kernel_rfl) (fun _ _ _ h => h) (Or.inl ⟨by kernel_rfl, ?_⟩) hHeld ?_
  · intro w hSw
    (try dsimp only at hSw)
    go_simp
  try simp only [Act.put, zwo, zwp, zwq]
  refine wpAnyH_take (i := 9) (oi := { dst := some 23, op := _, type := _, pos := _, after := _, guard := _ }) (v := .int .i64 ((sc : Int) + fs (rdK (za ws sc)) + 2 * ((x : Nat) : Int))) rfl (by kernel_rfl) (by kernel_rfl) (by kernel_rfl) (fun _ _ _ h => h) (Or.inl ⟨by kernel_rfl, ?_⟩) hHeld ?_
  · intro w hSw
    (try dsimp only at hSw)
    go_simp
  try simp only [Act.put, zwo, zwp, zwq]
  refine wpAnyH_ready (rs := [8]) (by kernel_rfl) (by simp) ?_
  refine AllReadyH.cons (o := { dst := some 22, op := _, type := _, pos := _, after := _, guard := _ }) rfl (fun K hK => ?_) AllReadyH.nil
  go_simp
  refine hK.out _ _ hHeld (fun hHeld => ?_)
  clear hK K
  try simp only [Act.put, zwo, zwp, zwq]
  refine wpAnyH_ready (rs := [10]) (by kernel_rfl) (by simp) ?_
  refine AllReadyH.cons (o := { dst := some 24, op := _, type := _, pos := _, after := _, guard := _ }) rfl (fun K hK => ?_) AllReadyH.nil
  go_simp
  go_at_call 158
  refine (HSA.out _ hWd).mono ?_
  rintro e wa ⟨rfl, ba1⟩
  have hHa := hHeld.1.next ba1
  have hRb : wa.rowIs ba 30 10 (fun i => (#[.slice (some ⟨bw, 0, none⟩) ws.length cw, .int .i64 sm, .int .i64 toh, .int .i64 (Tk : Int), .bool true, .int .i64 (sc : Int), .int .i64 old, .int .i64 (Ck : Int), .int .i64 sr, .slice ar rs.length cr] : Array Value).getD i (.bool false)) := hRd.of_block (ba1.block _ hRd.lt)
  have hWb : RwW wa bw wsk := Rw.below hWd ba1
  have ka := zl hRb rfl 0
  simp at ka
  clear hHeld ba1 KAd hRd hWd
  refine hK.out _ _ (KPV _ hHa ka) (fun hHeld => ?_)
  clear hK K hHa ka
  try simp only [Act.put, zwo, zwp, zwq]
  refine wpAnyH_ready (rs := [11]) (by kernel_rfl) (by simp) ?_
  refine AllReadyH.cons (o := { dst := some 25, op := _, type := _, pos := _, after := _, guard := _ }) rfl (fun K hK => ?_) AllReadyH.nil
  go_simp
  go_at_call 150
  refine (HFO.out _ hRb hWb).mono ?_
  rintro e wb ⟨rfl, hRc, hWc, hKc⟩
  have hHb := hHeld.1.trans hKc
  have kb := zl hRc rfl 0
  simp at kb
  clear hHeld hKc hRb hWb
  refine hK.out _ _ (KPV _ hHb kb) (fun hHeld => ?_)
  clear hK K hHb kb
  try simp only [Act.put, zwo, zwp, zwq]
  refine wpAnyH_ready (rs := [12]) (by kernel_rfl) (by simp) ?_
  refine AllReadyH.cons (o := { dst := some 26, op := _, type := _, pos := _, after := _, guard := _ }) rfl (fun K hK => ?_) AllReadyH.nil
  go_simp
  go_at_call 199
  refine (HLV.out _ hWc).mono ?_
  rintro e we ⟨rfl, hWe, hKe⟩
  have hRe : we.rowIs ba 30 10 (fun i => (#[.slice (some ⟨bw, 0, none⟩) ws.length cw, .int .i64 sm, .int .i64 toh, .int .i64 (a2.T : Int), .bool true, .int .i64 (sc : Int), .int .i64 old, .int .i64 (a2.C : Int), .int .i64 sr, .slice ar rs.length cr] : Array Value).getD i (.bool false)) := hRc.of_block (hKe.block _ hRc.lt (by simp; omega))
  have hHe := hHeld.1.trans (hKe.mono (fun y hy => by simp at hy; simp [hy]))
  have ke := zl hRe rfl 0
  simp at ke
  clear hHeld hKe hRc hWc
  refine hK.out _ _ (KPV _ hHe ke) (fun hHeld => ?_)
  clear hK K ke
  try simp only [Act.put, zwo, zwp, zwq]
  refine wpAnyH_done (by kernel_rfl) ?_ _
  obtain ⟨M, n1, n2, n3, n4⟩ := HNEW.out
  refine ⟨zjb hHe HOB.out.1 HOB.out.2, zly hHe, zbb S sc ⟨wsk, Tk, Ck⟩ x, L' ++ M, n1, by simp [hsL], n2.trans HHD.out, n3.trans HLEN.out, ?_, fun ho => ?_, ?_, ?_, HKp.out.trans hHe⟩
  · rw [HST.out]
    exact HLE2.out
  · obtain ⟨o1, o2⟩ := ztu ho
    have e := HORD.out o1
    rw [e, o2, List.length_append]
    rfl
  · rw [HST.out]
    exact hRe
  · rw [HST.out]
    exact hWe
 case done =>
  rintro D ys V hD rfl ⟨a', L', hCa, hsL, hhd, hlen, hle, hord, hRa, hRw, hKp⟩ hK
  have hfull := hord (by rw [List.take_of_length_le (by simp)])
  simp only [List.length_finRange] at hfull
  have hObj : zcs S sc ⟨ws, T, C⟩ = a' := by rw [hfull, hN]; rfl
  have lV : w.heap.size < V.heap.size := Nat.lt_of_lt_of_le (by omega : w.heap.size < w5.heap.size) hKp.size
  have cV : V.cell? ⟨w.heap.size, 0, none⟩ = some (.pointer (some ⟨ba, 0, none⟩)) := by rw [hKp.cell (p := ⟨w.heap.size, 0, none⟩) (by show w.heap.size < w5.heap.size; omega) (by simp; omega)]; exact c5
  have HWA : Hid (∀ W, RwW W bw a'.ws -> Calls Tryz.prog 114 #[.agg #[.slice (some ⟨bw, 0, none⟩) ws.length cw, .int .i64 sm, .int .i64 toh, .int .i64 (a'.T : Int), .bool true, .int .i64 (sc : Int), .int .i64 old, .int .i64 (a'.C : Int), .int .i64 sr, .slice ar rs.length cr], .int .i64 (sc : Int)] W fun e w' => e = .returned (.int .i64 (rdS (za ws sc) + 1)) /\ Below W.heap.size W w') := fun W hW => by
   rw [<- hlen, <- hhd]
   exact zg8 _ _ _ _ _ _ _ _ _ _ _ _ _ _ _ sc _ rfl (RwW.sl hW cw) (by omega) hCa.w64 (by omega)
  have hsz : (sc : Int) + (rdS (za ws sc) + 1) = ((sc + szA ws sc : Nat) : Int) := by unfold szA; omega
  have HSZ : Hid ((sc : Int) + (rdS (za ws sc) + 1) = ((sc + szA ws sc : Nat) : Int)) := hsz
  have KAV := zl hRa rfl
  have HRa : Hid (V.rowIs ba 30 10 (fun i => (#[.slice (some ⟨bw, 0, none⟩) ws.length cw, .int .i64 sm, .int .i64 toh, .int .i64 (a'.T : Int), .bool true, .int .i64 (sc : Int), .int .i64 old, .int .i64 (a'.C : Int), .int .i64 sr, .slice ar rs.length cr] : Array Value).getD i (.bool false))) := hRa
  have HRw : Hid (RwW V bw a'.ws) := hRw
  have HKp : Hid (Kp [ba, bw] w5 V) := hKp
  have HOBJ : Hid (zcs S sc ⟨ws, T, C⟩ = a') := hObj
  clear hCa hord hfull hObj hRa hRw hKp hlen hhd hsz hstops
  gi_wp2_with fail
  refine wpIn_mono (Q := fun e a1 w1 => e = .normal /\ a1.defers = [{ target := .collected D, args := #[] }] /\ ∃ X : World, w1 = X.setCell ⟨ba, 5, none⟩ (.int .i64 ((sc + szA ws sc : Nat) : Int)) /\ Kp [ba] V X /\ X.rowIs ba 30 10 (fun i => (#[.slice (some ⟨bw, 0, none⟩) ws.length cw, .int .i64 sm, .int .i64 toh, .int .i64 (a'.T : Int), .bool true, .int .i64 (sc : Int), .int .i64 old, .int .i64 (a'.C : Int), .int .i64 sr, .slice ar rs.length cr] : Array Value).getD i (.bool false)) /\ RwW X bw a'.ws) ?_ ?_
  rotate_left
  · rintro e a1 w1 ⟨rfl, hdf, X, rfl, hKX, hRX, hWX⟩
    obtain ⟨tm, df⟩ := a1
    dsimp only at hdf
    subst hdf
    have hDV : V.heap.size > D := (Array.getElem?_eq_some_iff.1 hK).1
    have hDX : (X.setCell ⟨ba, 5, none⟩ (.int .i64 ((sc + szA ws sc : Nat) : Int))).heap[D]? = some (.deferred (some [])) := by
     rw [Below.heap_setCell _ _ _ D (by show D ≠ ba; omega), hKX.block D hDV (by simp; omega)]
     exact hK
    refine ⟨by simp, .inl ⟨_, _, rfl, run_takeDeferred hDX, ?_⟩⟩
    have hg := grownBy_putObj' (X.setCell ⟨ba, 5, none⟩ (.int .i64 ((sc + szA ws sc : Nat) : Int))) D (.deferred none)
    have hr1 : (X.setCell ⟨ba, 5, none⟩ (.int .i64 ((sc + szA ws sc : Nat) : Int))).rowIs ba 30 10 (fun i => (#[.slice (some ⟨bw, 0, none⟩) ws.length cw, .int .i64 sm, .int .i64 toh, .int .i64 (a'.T : Int), .bool true, .int .i64 ((sc + szA ws sc : Nat) : Int), .int .i64 old, .int .i64 (a'.C : Int), .int .i64 sr, .slice ar rs.length cr] : Array Value).getD i (.bool false)) := by
     refine (hRX.set 5 _).congr fun i hi => ?_
     have hi2 : i = 0 \/ i = 1 \/ i = 2 \/ i = 3 \/ i = 4 \/ i = 5 \/ i = 6 \/ i = 7 \/ i = 8 \/ i = 9 := by omega
     rcases hi2 with rfl | rfl | rfl | rfl | rfl | rfl | rfl | rfl | rfl | rfl <;> rfl
    have hw1 : RwW (X.setCell ⟨ba, 5, none⟩ (.int .i64 ((sc + szA ws sc : Nat) : Int))) bw a'.ws := Rw.other hWX (p := ⟨ba, 5, none⟩) hab.symm _
    have hk1 : Kp [ba, bw] w5 (X.setCell ⟨ba, 5, none⟩ (.int .i64 ((sc + szA ws sc : Nat) : Int))) := (HKp.out.trans (hKX.mono (fun y hy => by simp at hy; simp [hy]))).setCell (p := ⟨ba, 5, none⟩) (.inl (by simp)) _
    refine ⟨.tuple #[], results_none rfl _ _ _, rfl, ?_, ?_, ?_⟩
    · rw [HOBJ.out]
      exact hr1.of_block (hg.block ba hr1.lt (fun e => by cases e; omega))
    · rw [HOBJ.out]
      exact Rw.of_block hw1 (hg.block bw hw1.lt (fun e => by cases e; omega))
    · exact (Kp.of_below BW5).trans (zlx hk1 hg (fun r e => by cases e; exact hD))
  have HWR : Hid (IntKind.i64.wrap ((sc : Int) + (rdS (za ws sc) + 1)) = (sc : Int) + (rdS (za ws sc) + 1)) := by show _ = _; rw [IntKind.wrap_i64]; omega
  refine wpIn_wide.2 ?_
  have KPD : ∀ V', Kp [ba] V V' -> (Kp [ba] V V' /\ V'.cell? ⟨w.heap.size, 0, none⟩ = some (.pointer (some ⟨ba, 0, none⟩))) := fun V' h1 => ⟨h1, by rw [h1.cell (p := ⟨w.heap.size, 0, none⟩) lV (by simp; omega)]; exact cV⟩
  refine wp_region_held_drew (S := fun V' => Kp [ba] V V' /\ V'.cell? ⟨w.heap.size, 0, none⟩ = some (.pointer (some ⟨ba, 0, none⟩))) (by kernel_rfl) (KPD _ (Kp.refl _ _).drew) (fun hHeld => ?_)
  obtain ⟨wd, hwd⟩ : ∃ y, y = V.drew := ⟨_, rfl⟩
  rw [<- hwd] at hHeld ⊢
  have hRd : wd.rowIs ba 30 10 (fun i => (#[.slice (some ⟨bw, 0, none⟩) ws.length cw, .int .i64 sm, .int .i64 toh, .int .i64 (a'.T : Int), .bool true, .int .i64 (sc : Int), .int .i64 old, .int .i64 (a'.C : Int), .int .i64 sr, .slice ar rs.length cr] : Array Value).getD i (.bool false)) := by rw [hwd]; exact HRa.out
  have hWd : RwW wd bw a'.ws := by rw [hwd]; exact Rw.drew HRw.out
  clear hwd KAV
  refine wpAnyH_take (i := 0) (oi := { dst := some 27, op := _, type := _, pos := _, after := _, guard := _ }) (v := .pointer (some ⟨ba, 0, none⟩)) rfl (by kernel_rfl) (by kernel_rfl) (by kernel_rfl) (fun _ _ _ h => by cases h.1) (Or.inl ⟨by kernel_rfl, ?_⟩) hHeld ?_
  · intro w hSw
    (try dsimp only at hSw)
    go_simp
  try simp only [Act.put, zwo, zwp, zwq]
  refine wpAnyH_take (i := 1) (oi := { dst := some 28, op := _, type := _, pos := _, after := _, guard := _ }) (v := .pointer (some ⟨ba, 0, none⟩)) rfl (by kernel_rfl) (by kernel_rfl) (by kernel_rfl) (fun _ _ _ h => by cases h.1) (Or.inl ⟨by kernel_rfl, ?_⟩) hHeld ?_
  · intro w hSw
    (try dsimp only at hSw)
    go_simp
  try simp only [Act.put, zwo, zwp, zwq]
  refine wpAnyH_take (i := 2) (oi := { dst := some 29, op := _, type := _, pos := _, after := _, guard := _ }) (v := .pointer (some ⟨ba, 5, none⟩)) rfl (by kernel_rfl) (by kernel_rfl) (by kernel_rfl) (fun _ _ _ h => by cases h.1) (Or.inl ⟨by kernel_rfl, ?_⟩) hHeld ?_
  · intro w hSw
    (try dsimp only at hSw)
    go_simp
  try simp only [Act.put, zwo, zwp, zwq]
  refine wpAnyH_take (i := 4) (oi := { dst := some 31, op := _, type := _, pos := _, after := _, guard := _ }) (v := .pointer (some ⟨ba, 0, none⟩)) rfl (by kernel_rfl) (by kernel_rfl) (by kernel_rfl) (fun _ _ _ h => by cases h.1) (Or.inl ⟨by kernel_rfl, ?_⟩) hHeld ?_
  · intro w hSw
    (try dsimp only at hSw)
    go_simp
  try simp only [Act.put, zwo, zwp, zwq]
  refine wpAnyH_take (i := 5) (oi := { dst := some 32, op := _, type := _, pos := _, after := _, guard := _ }) (v := .pointer (some ⟨ba, 0, none⟩)) rfl (by kernel_rfl) (by kernel_rfl) (by kernel_rfl) (fun _ _ _ h => by cases h.1) (Or.inl ⟨by kernel_rfl, ?_⟩) hHeld ?_
  · intro w hSw
    (try dsimp only at hSw)
    go_simp
  try simp only [Act.put, zwo, zwp, zwq]
  refine wpAnyH_take (i := 7) (oi := { dst := some 34, op := _, type := _, pos := _, after := _, guard := _ }) (v := .pointer (some ⟨ba, 0, none⟩)) rfl (by kernel_rfl) (by kernel_rfl) (by kernel_rfl) (fun _ _ _ h => by cases h.1) (Or.inl ⟨by kernel_rfl, ?_⟩) hHeld ?_
  · intro w hSw
    (try dsimp only at hSw)
    go_simp
  try simp only [Act.put, zwo, zwp, zwq]
  refine wpAnyH_take (i := 8) (oi := { dst := some 35, op := _, type := _, pos := _, after := _, guard := _ }) (v := .pointer (some ⟨ba, 0, none⟩)) rfl (by kernel_rfl) (by kernel_rfl) (by kernel_rfl) (fun _ _ _ h => by cases h.1) (Or.inl ⟨by kernel_rfl, ?_⟩) hHeld ?_
  · intro w hSw
    (try dsimp only at hSw)
    go_simp
  try simp only [Act.put, zwo, zwp, zwq]
  refine wpAnyH_take (i := 9) (oi := { dst := some 36, op := _, type := _, pos := _, after := _, guard := _ }) (v := .pointer (some ⟨ba, 5, none⟩)) rfl (by kernel_rfl) (by kernel_rfl) (by kernel_rfl) (fun _ _ _ h => by cases h.1) (Or.inl ⟨by kernel_rfl, ?_⟩) hHeld ?_
  · intro w hSw
    (try dsimp only at hSw)
    go_simp
  try simp only [Act.put, zwo, zwp, zwq]
  have kk := zl hRd rfl
  refine wpAnyH_ready (rs := [3, 6, 10]) (by kernel_rfl) (by simp) ?_
  refine AllReadyH.cons (o := { dst := some 30, op := _, type := _, pos := _, after := _, guard := _ }) rfl (fun K hK => ?_) (AllReadyH.cons (o := { dst := some 33, op := _, type := _, pos := _, after := _, guard := _ }) rfl (fun K hK => ?_) (AllReadyH.cons (o := { dst := some 37, op := _, type := _, pos := _, after := _, guard := _ }) rfl (fun K hK => ?_) AllReadyH.nil))
  · go_simp
    refine hK.out _ _ hHeld (fun hHeld => ?_)
    clear hK K kk
    try simp only [Act.put, zwo, zwp, zwq]
    have kk := zl hRd rfl
    refine wpAnyH_ready (rs := [6, 10]) (by kernel_rfl) (by simp) ?_
    refine AllReadyH.cons (o := { dst := some 33, op := _, type := _, pos := _, after := _, guard := _ }) rfl (fun K hK => ?_) (AllReadyH.cons (o := { dst := some 37, op := _, type := _, pos := _, after := _, guard := _ }) rfl (fun K hK => ?_) AllReadyH.nil)
    · go_simp
      refine hK.out _ _ hHeld (fun hHeld => ?_)
      clear hK K kk
      try simp only [Act.put, zwo, zwp, zwq]
      have kk := zl hRd rfl
      refine wpAnyH_ready (rs := [10]) (by kernel_rfl) (by simp) ?_
      refine AllReadyH.cons (o := { dst := some 37, op := _, type := _, pos := _, after := _, guard := _ }) rfl (fun K hK => ?_) AllReadyH.nil
      go_simp
      refine hK.out _ _ hHeld (fun hHeld => ?_)
      clear hK K kk
      try simp only [Act.put, zwo, zwp, zwq]
      have kk := zl hRd rfl
      refine wpAnyH_ready (rs := [11]) (by kernel_rfl) (by simp) ?_
      refine AllReadyH.cons (o := { dst := some 38, op := _, type := _, pos := _, after := _, guard := _ }) rfl (fun K hK => ?_) AllReadyH.nil
      go_simp
      go_at_call 114
      refine (HWA.out _ hWd).mono ?_
      rintro e we ⟨rfl, bb⟩
      have hHn := hHeld.1.next bb
      have hRe : we.rowIs ba 30 10 (fun i => (#[.slice (some ⟨bw, 0, none⟩) ws.length cw, .int .i64 sm, .int .i64 toh, .int .i64 (a'.T : Int), .bool true, .int .i64 (sc : Int), .int .i64 old, .int .i64 (a'.C : Int), .int .i64 sr, .slice ar rs.length cr] : Array Value).getD i (.bool false)) := World.rowIs.of_block hRd (bb.block _ (World.rowIs.lt hRd))
      have hWe : RwW we bw a'.ws := Rw.below hWd bb
      clear hHeld bb kk
      refine hK.out _ _ (KPD _ hHn) (fun hHeld => ?_)
      clear hK K hHn
      try simp only [Act.put, zwo, zwp, zwq]
      refine wpAnyH_take (i := 12) (oi := { dst := some 39, op := _, type := _, pos := _, after := _, guard := _ }) (v := .int .i64 ((sc : Int) + (rdS (za ws sc) + 1))) rfl (by kernel_rfl) (by kernel_rfl) (by kernel_rfl) (fun _ _ _ h => by cases h.1) (Or.inl ⟨by kernel_rfl, ?_⟩) hHeld ?_
      · intro w hSw
        (try dsimp only at hSw)
        go_simp
        exact HWR.out
      try simp only [Act.put, zwo, zwp, zwq]
      refine wpAnyH_take (i := 13) (oi := { dst := some 40, op := _, type := _, pos := _, after := _, guard := _ }) (v := .pointer (some ⟨ba, 0, none⟩)) rfl (by kernel_rfl) (by kernel_rfl) (by kernel_rfl) (fun _ _ _ h => by cases h.1) (Or.inl ⟨by kernel_rfl, ?_⟩) hHeld ?_
      · intro w hSw
        (try dsimp only at hSw)
        go_simp
      try simp only [Act.put, zwo, zwp, zwq]
      refine wpAnyH_take (i := 14) (oi := { dst := some 41, op := _, type := _, pos := _, after := _, guard := _ }) (v := .pointer (some ⟨ba, 5, none⟩)) rfl (by kernel_rfl) (by kernel_rfl) (by kernel_rfl) (fun _ _ _ h => by cases h.1) (Or.inl ⟨by kernel_rfl, ?_⟩) hHeld ?_
      · intro w hSw
        (try dsimp only at hSw)
        go_simp
      try simp only [Act.put, zwo, zwp, zwq]
      have k5 := zl hRe rfl 5
      simp at k5
      have f5 := World.rowIs.frozen hRe
      refine wpAnyH_ready (rs := [15]) (by kernel_rfl) (by simp) ?_
      refine AllReadyH.cons (o := { dst := none, op := _, type := _, pos := _, after := _, guard := _ }) rfl (fun K hK => ?_) AllReadyH.nil
      go_simp
      have hHs := hHeld.1
      clear hHeld
      refine hK.out _ _ (KPD _ (hHs.setCell (p := ⟨ba, 5, none⟩) (.inl (by simp)) _)) (fun hHeld => ?_)
      clear hK K k5 f5
      try simp only [Act.put, zwo, zwp, zwq]
      refine wpAnyH_done (by kernel_rfl) ?_ _
      exact ⟨rfl, rfl, we, by rw [HSZ.out], hHs, hRe, hWe⟩
    · go_simp
      refine hK.out _ _ hHeld (fun hHeld => ?_)
      clear hK K kk
      try simp only [Act.put, zwo, zwp, zwq]
      have kk := zl hRd rfl
      refine wpAnyH_ready (rs := [6]) (by kernel_rfl) (by simp) ?_
      refine AllReadyH.cons (o := { dst := some 33, op := _, type := _, pos := _, after := _, guard := _ }) rfl (fun K hK => ?_) AllReadyH.nil
      go_simp
      refine hK.out _ _ hHeld (fun hHeld => ?_)
      clear hK K kk
      try simp only [Act.put, zwo, zwp, zwq]
      have kk := zl hRd rfl
      refine wpAnyH_ready (rs := [11]) (by kernel_rfl) (by simp) ?_
      refine AllReadyH.cons (o := { dst := some 38, op := _, type := _, pos := _, after := _, guard := _ }) rfl (fun K hK => ?_) AllReadyH.nil
      go_simp
      go_at_call 114
      refine (HWA.out _ hWd).mono ?_
      rintro e we ⟨rfl, bb⟩
      have hHn := hHeld.1.next bb
      have hRe : we.rowIs ba 30 10 (fun i => (#[.slice (some ⟨bw, 0, none⟩) ws.length cw, .int .i64 sm, .int .i64 toh, .int .i64 (a'.T : Int), .bool true, .int .i64 (sc : Int), .int .i64 old, .int .i64 (a'.C : Int), .int .i64 sr, .slice ar rs.length cr] : Array Value).getD i (.bool false)) := World.rowIs.of_block hRd (bb.block _ (World.rowIs.lt hRd))
      have hWe : RwW we bw a'.ws := Rw.below hWd bb
      clear hHeld bb kk
      refine hK.out _ _ (KPD _ hHn) (fun hHeld => ?_)
      clear hK K hHn
      try simp only [Act.put, zwo, zwp, zwq]
      refine wpAnyH_take (i := 12) (oi := { dst := some 39, op := _, type := _, pos := _, after := _, guard := _ }) (v := .int .i64 ((sc : Int) + (rdS (za ws sc) + 1))) rfl (by kernel_rfl) (by kernel_rfl) (by kernel_rfl) (fun _ _ _ h => by cases h.1) (Or.inl ⟨by kernel_rfl, ?_⟩) hHeld ?_
      · intro w hSw
        (try dsimp only at hSw)
        go_simp
        exact HWR.out
      try simp only [Act.put, zwo, zwp, zwq]
      refine wpAnyH_take (i := 13) (oi := { dst := some 40, op := _, type := _, pos := _, after := _, guard := _ }) (v := .pointer (some ⟨ba, 0, none⟩)) rfl (by kernel_rfl) (by kernel_rfl) (by kernel_rfl) (fun _ _ _ h => by cases h.1) (Or.inl ⟨by kernel_rfl, ?_⟩) hHeld ?_
      · intro w hSw
        (try dsimp only at hSw)
        go_simp
      try simp only [Act.put, zwo, zwp, zwq]
      refine wpAnyH_take (i := 14) (oi := { dst := some 41, op := _, type := _, pos := _, after := _, guard := _ }) (v := .pointer (some ⟨ba, 5, none⟩)) rfl (by kernel_rfl) (by kernel_rfl) (by kernel_rfl) (fun _ _ _ h => by cases h.1) (Or.inl ⟨by kernel_rfl, ?_⟩) hHeld ?_
      · intro w hSw
        (try dsimp only at hSw)
        go_simp
      try simp only [Act.put, zwo, zwp, zwq]
      have k5 := zl hRe rfl 5
      simp at k5
      have f5 := World.rowIs.frozen hRe
      refine wpAnyH_ready (rs := [15]) (by kernel_rfl) (by simp) ?_
      refine AllReadyH.cons (o := { dst := none, op := _, type := _, pos := _, after := _, guard := _ }) rfl (fun K hK => ?_) AllReadyH.nil
      go_simp
      have hHs := hHeld.1
      clear hHeld
      refine hK.out _ _ (KPD _ (hHs.setCell (p := ⟨ba, 5, none⟩) (.inl (by simp)) _)) (fun hHeld => ?_)
      clear hK K k5 f5
      try simp only [Act.put, zwo, zwp, zwq]
      refine wpAnyH_done (by kernel_rfl) ?_ _
      exact ⟨rfl, rfl, we, by rw [HSZ.out], hHs, hRe, hWe⟩
  · go_simp
    refine hK.out _ _ hHeld (fun hHeld => ?_)
    clear hK K kk
    try simp only [Act.put, zwo, zwp, zwq]
    have kk := zl hRd rfl
    refine wpAnyH_ready (rs := [3, 10]) (by kernel_rfl) (by simp) ?_
    refine AllReadyH.cons (o := { dst := some 30, op := _, type := _, pos := _, after := _, guard := _ }) rfl (fun K hK => ?_) (AllReadyH.cons (o := { dst := some 37, op := _, type := _, pos := _, after := _, guard := _ }) rfl (fun K hK => ?_) AllReadyH.nil)
    · go_simp
      refine hK.out _ _ hHeld (fun hHeld => ?_)
      clear hK K kk
      try simp only [Act.put, zwo, zwp, zwq]
      have kk := zl hRd rfl
      refine wpAnyH_ready (rs := [10]) (by kernel_rfl) (by simp) ?_
      refine AllReadyH.cons (o := { dst := some 37, op := _, type := _, pos := _, after := _, guard := _ }) rfl (fun K hK => ?_) AllReadyH.nil
      go_simp
      refine hK.out _ _ hHeld (fun hHeld => ?_)
      clear hK K kk
      try simp only [Act.put, zwo, zwp, zwq]
      have kk := zl hRd rfl
      refine wpAnyH_ready (rs := [11]) (by kernel_rfl) (by simp) ?_
      refine AllReadyH.cons (o := { dst := some 38, op := _, type := _, pos := _, after := _, guard := _ }) rfl (fun K hK => ?_) AllReadyH.nil
      go_simp
      go_at_call 114
      refine (HWA.out _ hWd).mono ?_
      rintro e we ⟨rfl, bb⟩
      have hHn := hHeld.1.next bb
      have hRe : we.rowIs ba 30 10 (fun i => (#[.slice (some ⟨bw, 0, none⟩) ws.length cw, .int .i64 sm, .int .i64 toh, .int .i64 (a'.T : Int), .bool true, .int .i64 (sc : Int), .int .i64 old, .int .i64 (a'.C : Int), .int .i64 sr, .slice ar rs.length cr] : Array Value).getD i (.bool false)) := World.rowIs.of_block hRd (bb.block _ (World.rowIs.lt hRd))
      have hWe : RwW we bw a'.ws := Rw.below hWd bb
      clear hHeld bb kk
      refine hK.out _ _ (KPD _ hHn) (fun hHeld => ?_)
      clear hK K hHn
      try simp only [Act.put, zwo, zwp, zwq]
      refine wpAnyH_take (i := 12) (oi := { dst := some 39, op := _, type := _, pos := _, after := _, guard := _ }) (v := .int .i64 ((sc : Int) + (rdS (za ws sc) + 1))) rfl (by kernel_rfl) (by kernel_rfl) (by kernel_rfl) (fun _ _ _ h => by cases h.1) (Or.inl ⟨by kernel_rfl, ?_⟩) hHeld ?_
      · intro w hSw
        (try dsimp only at hSw)
        go_simp
        exact HWR.out
      try simp only [Act.put, zwo, zwp, zwq]
      refine wpAnyH_take (i := 13) (oi := { dst := some 40, op := _, type := _, pos := _, after := _, guard := _ }) (v := .pointer (some ⟨ba, 0, none⟩)) rfl (by kernel_rfl) (by kernel_rfl) (by kernel_rfl) (fun _ _ _ h => by cases h.1) (Or.inl ⟨by kernel_rfl, ?_⟩) hHeld ?_
      · intro w hSw
        (try dsimp only at hSw)
        go_simp
      try simp only [Act.put, zwo, zwp, zwq]
      refine wpAnyH_take (i := 14) (oi := { dst := some 41, op := _, type := _, pos := _, after := _, guard := _ }) (v := .pointer (some ⟨ba, 5, none⟩)) rfl (by kernel_rfl) (by kernel_rfl) (by kernel_rfl) (fun _ _ _ h => by cases h.1) (Or.inl ⟨by kernel_rfl, ?_⟩) hHeld ?_
      · intro w hSw
        (try dsimp only at hSw)
        go_simp
      try simp only [Act.put, zwo, zwp, zwq]
      have k5 := zl hRe rfl 5
      simp at k5
      have f5 := World.rowIs.frozen hRe
      refine wpAnyH_ready (rs := [15]) (by kernel_rfl) (by simp) ?_
      refine AllReadyH.cons (o := { dst := none, op := _, type := _, pos := _, after := _, guard := _ }) rfl (fun K hK => ?_) AllReadyH.nil
      go_simp
      have hHs := hHeld.1
      clear hHeld
      refine hK.out _ _ (KPD _ (hHs.setCell (p := ⟨ba, 5, none⟩) (.inl (by simp)) _)) (fun hHeld => ?_)
      clear hK K k5 f5
      try simp only [Act.put, zwo, zwp, zwq]
      refine wpAnyH_done (by kernel_rfl) ?_ _
      exact ⟨rfl, rfl, we, by rw [HSZ.out], hHs, hRe, hWe⟩
    · go_simp
      refine hK.out _ _ hHeld (fun hHeld => ?_)
      clear hK K kk
      try simp only [Act.put, zwo, zwp, zwq]
      have kk := zl hRd rfl
      refine wpAnyH_ready (rs := [3, 11]) (by kernel_rfl) (by simp) ?_
      refine AllReadyH.cons (o := { dst := some 30, op := _, type := _, pos := _, after := _, guard := _ }) rfl (fun K hK => ?_) (AllReadyH.cons (o := { dst := some 38, op := _, type := _, pos := _, after := _, guard := _ }) rfl (fun K hK => ?_) AllReadyH.nil)
      · go_simp
        refine hK.out _ _ hHeld (fun hHeld => ?_)
        clear hK K kk
        try simp only [Act.put, zwo, zwp, zwq]
        have kk := zl hRd rfl
        refine wpAnyH_ready (rs := [11]) (by kernel_rfl) (by simp) ?_
        refine AllReadyH.cons (o := { dst := some 38, op := _, type := _, pos := _, after := _, guard := _ }) rfl (fun K hK => ?_) AllReadyH.nil
        go_simp
        go_at_call 114
        refine (HWA.out _ hWd).mono ?_
        rintro e we ⟨rfl, bb⟩
        have hHn := hHeld.1.next bb
        have hRe : we.rowIs ba 30 10 (fun i => (#[.slice (some ⟨bw, 0, none⟩) ws.length cw, .int .i64 sm, .int .i64 toh, .int .i64 (a'.T : Int), .bool true, .int .i64 (sc : Int), .int .i64 old, .int .i64 (a'.C : Int), .int .i64 sr, .slice ar rs.length cr] : Array Value).getD i (.bool false)) := World.rowIs.of_block hRd (bb.block _ (World.rowIs.lt hRd))
        have hWe : RwW we bw a'.ws := Rw.below hWd bb
        clear hHeld bb kk
        refine hK.out _ _ (KPD _ hHn) (fun hHeld => ?_)
        clear hK K hHn
        try simp only [Act.put, zwo, zwp, zwq]
        refine wpAnyH_take (i := 12) (oi := { dst := some 39, op := _, type := _, pos := _, after := _, guard := _ }) (v := .int .i64 ((sc : Int) + (rdS (za ws sc) + 1))) rfl (by kernel_rfl) (by kernel_rfl) (by kernel_rfl) (fun _ _ _ h => by cases h.1) (Or.inl ⟨by kernel_rfl, ?_⟩) hHeld ?_
        · intro w hSw
          (try dsimp only at hSw)
          go_simp
          exact HWR.out
        try simp only [Act.put, zwo, zwp, zwq]
        refine wpAnyH_take (i := 13) (oi := { dst := some 40, op := _, type := _, pos := _, after := _, guard := _ }) (v := .pointer (some ⟨ba, 0, none⟩)) rfl (by kernel_rfl) (by kernel_rfl) (by kernel_rfl) (fun _ _ _ h => by cases h.1) (Or.inl ⟨by kernel_rfl, ?_⟩) hHeld ?_
        · intro w hSw
          (try dsimp only at hSw)
          go_simp
        try simp only [Act.put, zwo, zwp, zwq]
        refine wpAnyH_take (i := 14) (oi := { dst := some 41, op := _, type := _, pos := _, after := _, guard := _ }) (v := .pointer (some ⟨ba, 5, none⟩)) rfl (by kernel_rfl) (by kernel_rfl) (by kernel_rfl) (fun _ _ _ h => by cases h.1) (Or.inl ⟨by kernel_rfl, ?_⟩) hHeld ?_
        · intro w hSw
          (try dsimp only at hSw)
          go_simp
        try simp only [Act.put, zwo, zwp, zwq]
        have k5 := zl hRe rfl 5
        simp at k5
        have f5 := World.rowIs.frozen hRe
        refine wpAnyH_ready (rs := [15]) (by kernel_rfl) (by simp) ?_
        refine AllReadyH.cons (o := { dst := none, op := _, type := _, pos := _, after := _, guard := _ }) rfl (fun K hK => ?_) AllReadyH.nil
        go_simp
        have hHs := hHeld.1
        clear hHeld
        refine hK.out _ _ (KPD _ (hHs.setCell (p := ⟨ba, 5, none⟩) (.inl (by simp)) _)) (fun hHeld => ?_)
        clear hK K k5 f5
        try simp only [Act.put, zwo, zwp, zwq]
        refine wpAnyH_done (by kernel_rfl) ?_ _
        exact ⟨rfl, rfl, we, by rw [HSZ.out], hHs, hRe, hWe⟩
      · go_simp
        go_at_call 114
        refine (HWA.out _ hWd).mono ?_
        rintro e we ⟨rfl, bb⟩
        have hHn := hHeld.1.next bb
        have hRe : we.rowIs ba 30 10 (fun i => (#[.slice (some ⟨bw, 0, none⟩) ws.length cw, .int .i64 sm, .int .i64 toh, .int .i64 (a'.T : Int), .bool true, .int .i64 (sc : Int), .int .i64 old, .int .i64 (a'.C : Int), .int .i64 sr, .slice ar rs.length cr] : Array Value).getD i (.bool false)) := World.rowIs.of_block hRd (bb.block _ (World.rowIs.lt hRd))
        have hWe : RwW we bw a'.ws := Rw.below hWd bb
        clear hHeld bb kk
        refine hK.out _ _ (KPD _ hHn) (fun hHeld => ?_)
        clear hK K hHn
        try simp only [Act.put, zwo, zwp, zwq]
        have kk := zl hRe rfl
        refine wpAnyH_ready (rs := [3]) (by kernel_rfl) (by simp) ?_
        refine AllReadyH.cons (o := { dst := some 30, op := _, type := _, pos := _, after := _, guard := _ }) rfl (fun K hK => ?_) AllReadyH.nil
        go_simp
        refine hK.out _ _ hHeld (fun hHeld => ?_)
        clear hK K kk
        try simp only [Act.put, zwo, zwp, zwq]
        refine wpAnyH_take (i := 12) (oi := { dst := some 39, op := _, type := _, pos := _, after := _, guard := _ }) (v := .int .i64 ((sc : Int) + (rdS (za ws sc) + 1))) rfl (by kernel_rfl) (by kernel_rfl) (by kernel_rfl) (fun _ _ _ h => by cases h.1) (Or.inl ⟨by kernel_rfl, ?_⟩) hHeld ?_
        · intro w hSw
          (try dsimp only at hSw)
          go_simp
          exact HWR.out
        try simp only [Act.put, zwo, zwp, zwq]
        refine wpAnyH_take (i := 13) (oi := { dst := some 40, op := _, type := _, pos := _, after := _, guard := _ }) (v := .pointer (some ⟨ba, 0, none⟩)) rfl (by kernel_rfl) (by kernel_rfl) (by kernel_rfl) (fun _ _ _ h => by cases h.1) (Or.inl ⟨by kernel_rfl, ?_⟩) hHeld ?_
        · intro w hSw
          (try dsimp only at hSw)
          go_simp
        try simp only [Act.put, zwo, zwp, zwq]
        refine wpAnyH_take (i := 14) (oi := { dst := some 41, op := _, type := _, pos := _, after := _, guard := _ }) (v := .pointer (some ⟨ba, 5, none⟩)) rfl (by kernel_rfl) (by kernel_rfl) (by kernel_rfl) (fun _ _ _ h => by cases h.1) (Or.inl ⟨by kernel_rfl, ?_⟩) hHeld ?_
        · intro w hSw
          (try dsimp only at hSw)
          go_simp
        try simp only [Act.put, zwo, zwp, zwq]
        have k5 := zl hRe rfl 5
        simp at k5
        have f5 := World.rowIs.frozen hRe
        refine wpAnyH_ready (rs := [15]) (by kernel_rfl) (by simp) ?_
        refine AllReadyH.cons (o := { dst := none, op := _, type := _, pos := _, after := _, guard := _ }) rfl (fun K hK => ?_) AllReadyH.nil
        go_simp
        have hHs := hHeld.1
        clear hHeld
        refine hK.out _ _ (KPD _ (hHs.setCell (p := ⟨ba, 5, none⟩) (.inl (by simp)) _)) (fun hHeld => ?_)
        clear hK K k5 f5
        try simp only [Act.put, zwo, zwp, zwq]
        refine wpAnyH_done (by kernel_rfl) ?_ _
        exact ⟨rfl, rfl, we, by rw [HSZ.out], hHs, hRe, hWe⟩
  · go_simp
    refine hK.out _ _ hHeld (fun hHeld => ?_)
    clear hK K kk
    try simp only [Act.put, zwo, zwp, zwq]
    have kk := zl hRd rfl
    refine wpAnyH_ready (rs := [3, 6]) (by kernel_rfl) (by simp) ?_
    refine AllReadyH.cons (o := { dst := some 30, op := _, type := _, pos := _, after := _, guard := _ }) rfl (fun K hK => ?_) (AllReadyH.cons (o := { dst := some 33, op := _, type := _, pos := _, after := _, guard := _ }) rfl (fun K hK => ?_) AllReadyH.nil)
    · go_simp
      refine hK.out _ _ hHeld (fun hHeld => ?_)
      clear hK K kk
      try simp only [Act.put, zwo, zwp, zwq]
      have kk := zl hRd rfl
      refine wpAnyH_ready (rs := [6]) (by kernel_rfl) (by simp) ?_
      refine AllReadyH.cons (o := { dst := some 33, op := _, type := _, pos := _, after := _, guard := _ }) rfl (fun K hK => ?_) AllReadyH.nil
      go_simp
      refine hK.out _ _ hHeld (fun hHeld => ?_)
      clear hK K kk
      try simp only [Act.put, zwo, zwp, zwq]
      have kk := zl hRd rfl
      refine wpAnyH_ready (rs := [11]) (by kernel_rfl) (by simp) ?_
      refine AllReadyH.cons (o := { dst := some 38, op := _, type := _, pos := _, after := _, guard := _ }) rfl (fun K hK => ?_) AllReadyH.nil
      go_simp
      go_at_call 114
      refine (HWA.out _ hWd).mono ?_
      rintro e we ⟨rfl, bb⟩
      have hHn := hHeld.1.next bb
      have hRe : we.rowIs ba 30 10 (fun i => (#[.slice (some ⟨bw, 0, none⟩) ws.length cw, .int .i64 sm, .int .i64 toh, .int .i64 (a'.T : Int), .bool true, .int .i64 (sc : Int), .int .i64 old, .int .i64 (a'.C : Int), .int .i64 sr, .slice ar rs.length cr] : Array Value).getD i (.bool false)) := World.rowIs.of_block hRd (bb.block _ (World.rowIs.lt hRd))
      have hWe : RwW we bw a'.ws := Rw.below hWd bb
      clear hHeld bb kk
      refine hK.out _ _ (KPD _ hHn) (fun hHeld => ?_)
      clear hK K hHn
      try simp only [Act.put, zwo, zwp, zwq]
      refine wpAnyH_take (i := 12) (oi := { dst := some 39, op := _, type := _, pos := _, after := _, guard := _ }) (v := .int .i64 ((sc : Int) + (rdS (za ws sc) + 1))) rfl (by kernel_rfl) (by kernel_rfl) (by kernel_rfl) (fun _ _ _ h => by cases h.1) (Or.inl ⟨by kernel_rfl, ?_⟩) hHeld ?_
      · intro w hSw
        (try dsimp only at hSw)
        go_simp
        exact HWR.out
      try simp only [Act.put, zwo, zwp, zwq]
      refine wpAnyH_take (i := 13) (oi := { dst := some 40, op := _, type := _, pos := _, after := _, guard := _ }) (v := .pointer (some ⟨ba, 0, none⟩)) rfl (by kernel_rfl) (by kernel_rfl) (by kernel_rfl) (fun _ _ _ h => by cases h.1) (Or.inl ⟨by kernel_rfl, ?_⟩) hHeld ?_
      · intro w hSw
        (try dsimp only at hSw)
        go_simp
      try simp only [Act.put, zwo, zwp, zwq]
      refine wpAnyH_take (i := 14) (oi := { dst := some 41, op := _, type := _, pos := _, after := _, guard := _ }) (v := .pointer (some ⟨ba, 5, none⟩)) rfl (by kernel_rfl) (by kernel_rfl) (by kernel_rfl) (fun _ _ _ h => by cases h.1) (Or.inl ⟨by kernel_rfl, ?_⟩) hHeld ?_
      · intro w hSw
        (try dsimp only at hSw)
        go_simp
      try simp only [Act.put, zwo, zwp, zwq]
      have k5 := zl hRe rfl 5
      simp at k5
      have f5 := World.rowIs.frozen hRe
      refine wpAnyH_ready (rs := [15]) (by kernel_rfl) (by simp) ?_
      refine AllReadyH.cons (o := { dst := none, op := _, type := _, pos := _, after := _, guard := _ }) rfl (fun K hK => ?_) AllReadyH.nil
      go_simp
      have hHs := hHeld.1
      clear hHeld
      refine hK.out _ _ (KPD _ (hHs.setCell (p := ⟨ba, 5, none⟩) (.inl (by simp)) _)) (fun hHeld => ?_)
      clear hK K k5 f5
      try simp only [Act.put, zwo, zwp, zwq]
      refine wpAnyH_done (by kernel_rfl) ?_ _
      exact ⟨rfl, rfl, we, by rw [HSZ.out], hHs, hRe, hWe⟩
    · go_simp
      refine hK.out _ _ hHeld (fun hHeld => ?_)
      clear hK K kk
      try simp only [Act.put, zwo, zwp, zwq]
      have kk := zl hRd rfl
      refine wpAnyH_ready (rs := [3, 11]) (by kernel_rfl) (by simp) ?_
      refine AllReadyH.cons (o := { dst := some 30, op := _, type := _, pos := _, after := _, guard := _ }) rfl (fun K hK => ?_) (AllReadyH.cons (o := { dst := some 38, op := _, type := _, pos := _, after := _, guard := _ }) rfl (fun K hK => ?_) AllReadyH.nil)
      · go_simp
        refine hK.out _ _ hHeld (fun hHeld => ?_)
        clear hK K kk
        try simp only [Act.put, zwo, zwp, zwq]
        have kk := zl hRd rfl
        refine wpAnyH_ready (rs := [11]) (by kernel_rfl) (by simp) ?_
        refine AllReadyH.cons (o := { dst := some 38, op := _, type := _, pos := _, after := _, guard := _ }) rfl (fun K hK => ?_) AllReadyH.nil
        go_simp
        go_at_call 114
        refine (HWA.out _ hWd).mono ?_
        rintro e we ⟨rfl, bb⟩
        have hHn := hHeld.1.next bb
        have hRe : we.rowIs ba 30 10 (fun i => (#[.slice (some ⟨bw, 0, none⟩) ws.length cw, .int .i64 sm, .int .i64 toh, .int .i64 (a'.T : Int), .bool true, .int .i64 (sc : Int), .int .i64 old, .int .i64 (a'.C : Int), .int .i64 sr, .slice ar rs.length cr] : Array Value).getD i (.bool false)) := World.rowIs.of_block hRd (bb.block _ (World.rowIs.lt hRd))
        have hWe : RwW we bw a'.ws := Rw.below hWd bb
        clear hHeld bb kk
        refine hK.out _ _ (KPD _ hHn) (fun hHeld => ?_)
        clear hK K hHn
        try simp only [Act.put, zwo, zwp, zwq]
        refine wpAnyH_take (i := 12) (oi := { dst := some 39, op := _, type := _, pos := _, after := _, guard := _ }) (v := .int .i64 ((sc : Int) + (rdS (za ws sc) + 1))) rfl (by kernel_rfl) (by kernel_rfl) (by kernel_rfl) (fun _ _ _ h => by cases h.1) (Or.inl ⟨by kernel_rfl, ?_⟩) hHeld ?_
        · intro w hSw
          (try dsimp only at hSw)
          go_simp
          exact HWR.out
        try simp only [Act.put, zwo, zwp, zwq]
        refine wpAnyH_take (i := 13) (oi := { dst := some 40, op := _, type := _, pos := _, after := _, guard := _ }) (v := .pointer (some ⟨ba, 0, none⟩)) rfl (by kernel_rfl) (by kernel_rfl) (by kernel_rfl) (fun _ _ _ h => by cases h.1) (Or.inl ⟨by kernel_rfl, ?_⟩) hHeld ?_
        · intro w hSw
          (try dsimp only at hSw)
          go_simp
        try simp only [Act.put, zwo, zwp, zwq]
        refine wpAnyH_take (i := 14) (oi := { dst := some 41, op := _, type := _, pos := _, after := _, guard := _ }) (v := .pointer (some ⟨ba, 5, none⟩)) rfl (by kernel_rfl) (by kernel_rfl) (by kernel_rfl) (fun _ _ _ h => by cases h.1) (Or.inl ⟨by kernel_rfl, ?_⟩) hHeld ?_
        · intro w hSw
          (try dsimp only at hSw)
          go_simp
        try simp only [Act.put, zwo, zwp, zwq]
        have k5 := zl hRe rfl 5
        simp at k5
        have f5 := World.rowIs.frozen hRe
        refine wpAnyH_ready (rs := [15]) (by kernel_rfl) (by simp) ?_
        refine AllReadyH.cons (o := { dst := none, op := _, type := _, pos := _, after := _, guard := _ }) rfl (fun K hK => ?_) AllReadyH.nil
        go_simp
        have hHs := hHeld.1
        clear hHeld
        refine hK.out _ _ (KPD _ (hHs.setCell (p := ⟨ba, 5, none⟩) (.inl (by simp)) _)) (fun hHeld => ?_)
        clear hK K k5 f5
        try simp only [Act.put, zwo, zwp, zwq]
        refine wpAnyH_done (by kernel_rfl) ?_ _
        exact ⟨rfl, rfl, we, by rw [HSZ.out], hHs, hRe, hWe⟩
      · go_simp
        go_at_call 114
        refine (HWA.out _ hWd).mono ?_
        rintro e we ⟨rfl, bb⟩
        have hHn := hHeld.1.next bb
        have hRe : we.rowIs ba 30 10 (fun i => (#[.slice (some ⟨bw, 0, none⟩) ws.length cw, .int .i64 sm, .int .i64 toh, .int .i64 (a'.T : Int), .bool true, .int .i64 (sc : Int), .int .i64 old, .int .i64 (a'.C : Int), .int .i64 sr, .slice ar rs.length cr] : Array Value).getD i (.bool false)) := World.rowIs.of_block hRd (bb.block _ (World.rowIs.lt hRd))
        have hWe : RwW we bw a'.ws := Rw.below hWd bb
        clear hHeld bb kk
        refine hK.out _ _ (KPD _ hHn) (fun hHeld => ?_)
        clear hK K hHn
        try simp only [Act.put, zwo, zwp, zwq]
        have kk := zl hRe rfl
        refine wpAnyH_ready (rs := [3]) (by kernel_rfl) (by simp) ?_
        refine AllReadyH.cons (o := { dst := some 30, op := _, type := _, pos := _, after := _, guard := _ }) rfl (fun K hK => ?_) AllReadyH.nil
        go_simp
        refine hK.out _ _ hHeld (fun hHeld => ?_)
        clear hK K kk
        try simp only [Act.put, zwo, zwp, zwq]
        refine wpAnyH_take (i := 12) (oi := { dst := some 39, op := _, type := _, pos := _, after := _, guard := _ }) (v := .int .i64 ((sc : Int) + (rdS (za ws sc) + 1))) rfl (by kernel_rfl) (by kernel_rfl) (by kernel_rfl) (fun _ _ _ h => by cases h.1) (Or.inl ⟨by kernel_rfl, ?_⟩) hHeld ?_
        · intro w hSw
          (try dsimp only at hSw)
          go_simp
          exact HWR.out
        try simp only [Act.put, zwo, zwp, zwq]
        refine wpAnyH_take (i := 13) (oi := { dst := some 40, op := _, type := _, pos := _, after := _, guard := _ }) (v := .pointer (some ⟨ba, 0, none⟩)) rfl (by kernel_rfl) (by kernel_rfl) (by kernel_rfl) (fun _ _ _ h => by cases h.1) (Or.inl ⟨by kernel_rfl, ?_⟩) hHeld ?_
        · intro w hSw
          (try dsimp only at hSw)
          go_simp
        try simp only [Act.put, zwo, zwp, zwq]
        refine wpAnyH_take (i := 14) (oi := { dst := some 41, op := _, type := _, pos := _, after := _, guard := _ }) (v := .pointer (some ⟨ba, 5, none⟩)) rfl (by kernel_rfl) (by kernel_rfl) (by kernel_rfl) (fun _ _ _ h => by cases h.1) (Or.inl ⟨by kernel_rfl, ?_⟩) hHeld ?_
        · intro w hSw
          (try dsimp only at hSw)
          go_simp
        try simp only [Act.put, zwo, zwp, zwq]
        have k5 := zl hRe rfl 5
        simp at k5
        have f5 := World.rowIs.frozen hRe
        refine wpAnyH_ready (rs := [15]) (by kernel_rfl) (by simp) ?_
        refine AllReadyH.cons (o := { dst := none, op := _, type := _, pos := _, after := _, guard := _ }) rfl (fun K hK => ?_) AllReadyH.nil
        go_simp
        have hHs := hHeld.1
        clear hHeld
        refine hK.out _ _ (KPD _ (hHs.setCell (p := ⟨ba, 5, none⟩) (.inl (by simp)) _)) (fun hHeld => ?_)
        clear hK K k5 f5
        try simp only [Act.put, zwo, zwp, zwq]
        refine wpAnyH_done (by kernel_rfl) ?_ _
        exact ⟨rfl, rfl, we, by rw [HSZ.out], hHs, hRe, hWe⟩
 case stop =>
  rintro D c pre V hD hpre h hK
  exact h.elim
set_option maxHeartbeats 4000000 in
theorem zlc (ba bw cw : Nat) (ws : List Int) (sm toh : Int) (T sn : Nat) (old : Int) (C : Nat) (sr : Int) (ar : Option Addr) (cr : Nat) (rs : List (Int × Int)) (w : World) {S E F Od : Nat} {L O : List Nat} {R : Cp × Nat} (hA : w.rowIs ba 30 10 (fun i => (#[.slice (some ⟨bw, 0, none⟩) ws.length cw, .int .i64 sm, .int .i64 toh, .int .i64 (T : Int), .bool true, .int .i64 (sn : Int), .int .i64 old, .int .i64 (C : Int), .int .i64 sr, .slice ar rs.length cr] : Array Value).getD i (.bool false))) (hW : RwW w bw ws) (hab : ba ≠ bw) (hcw : ws.length <= cw) (hC : Cyc ⟨ws, T, C⟩ S E F Od sn 0 L O) (hH : zby sm toh S E F Od) (hCT : C <= T + 8000) (hE8 : E <= 8000) (hR : R = zbk S E ⟨ws, T, C⟩ sn 0) :
 Calls Tryz.prog 153 #[.pointer (some ⟨ba, 0, none⟩), .int .i64 9223372036854775807] w fun e w' => e = .returned (.int .i64 (R.2 : Int)) /\ w'.rowIs ba 30 10 (fun i => (#[.slice (some ⟨bw, 0, none⟩) ws.length cw, .int .i64 sm, .int .i64 toh, .int .i64 (R.1.T : Int), .bool false, .int .i64 0, .int .i64 0, .int .i64 0, .int .i64 sr, .slice ar rs.length cr] : Array Value).getD i (.bool false)) /\ RwW w' bw R.1.ws /\ Kp [ba, bw] w w' := by
 have KA := zl hA rfl
 have HA : Hid (w.rowIs ba 30 10 (fun i => (#[.slice (some ⟨bw, 0, none⟩) ws.length cw, .int .i64 sm, .int .i64 toh, .int .i64 (T : Int), .bool true, .int .i64 (sn : Int), .int .i64 old, .int .i64 (C : Int), .int .i64 sr, .slice ar rs.length cr] : Array Value).getD i (.bool false))) := hA
 have HW : Hid (RwW w bw ws) := hW
 have HC : Hid (Cyc ⟨ws, T, C⟩ S E F Od sn 0 L O) := hC
 have HH : Hid (zby sm toh S E F Od) := hH
 have HR : Hid (R = zbk S E ⟨ws, T, C⟩ sn 0) := hR
 have lba := hA.lt
 have lbw := hW.lt
 have hlE : E <= ws.length /\ ws.length <= 1048576 := ⟨hC.hE, hC.small⟩
 have hS1 := hC.hS
 have hR2 : R.2 <= E := by
  rw [hR]
  obtain ⟨_, _, _, h⟩ := hC.run E 0 (by omega)
  omega
 clear hA hW hC hH hR
 go_enter Tryz.func153, Tryz.ntmps153
 go_wp2_with fail
 by_cases hst : sn = T
 · subst hst
   refine (zf4 ba bw cw ws sm toh (sn : Int) old (C : Int) sr ar cr rs _ HA.out).mono ?_
   rintro e w1 ⟨rfl, hR1, hK1⟩
   have HR1 : Hid (w1.rowIs ba 30 10 (fun i => (#[.slice (some ⟨bw, 0, none⟩) ws.length cw, .int .i64 sm, .int .i64 toh, .int .i64 (sn : Int), .bool false, .int .i64 0, .int .i64 0, .int .i64 0, .int .i64 sr, .slice ar rs.length cr] : Array Value).getD i (.bool false))) := hR1
   have HW1 : Hid (RwW w1 bw ws) := Rw.kp HW.out hK1 (by simp; omega)
   have HK1 : Hid (Kp [ba, bw] w w1) := hK1.mono (fun y hy => by simp at hy; simp [hy])
   clear hR1 hK1 KA
   go_wp2_with fail
   go_loopw [5] (fun u3 wr => ∃ (n : Nat) (a : Cp), u3 = .int .i64 n /\ RwW wr bw a.ws /\ a.ws.length = ws.length /\ Kp [ba, bw] w wr /\ ((∃ (sc d : Nat) (L' : List Nat), wr.rowIs ba 30 10 (fun i => (#[.slice (some ⟨bw, 0, none⟩) ws.length cw, .int .i64 sm, .int .i64 toh, .int .i64 (a.T : Int), .bool true, .int .i64 (sc : Int), .int .i64 old, .int .i64 (a.C : Int), .int .i64 sr, .slice ar rs.length cr] : Array Value).getD i (.bool false)) /\ Cyc a S E F Od sc 0 L' O /\ sc ≠ a.T /\ E <= sc + d /\ zbk S d a sc n = R /\ n + sn <= sc /\ a.C <= a.T + 8000) \/ (wr.rowIs ba 30 10 (fun i => (#[.slice (some ⟨bw, 0, none⟩) ws.length cw, .int .i64 sm, .int .i64 toh, .int .i64 (a.T : Int), .bool false, .int .i64 0, .int .i64 0, .int .i64 0, .int .i64 sr, .slice ar rs.length cr] : Array Value).getD i (.bool false)) /\ R = (a, n)))) (fun u3 _ => 8000 - (intOf u3).toNat)
   case atStart => exact ⟨0, ⟨ws, sn, C⟩, rfl, HW1.out, rfl, HK1.out, .inr ⟨HR1.out, by rw [HR.out, ze1 _ _ _ _ _ rfl]⟩⟩
   case round =>
    obtain ⟨n, a, rfl, hWr, hlen, hKr, hcs⟩ := hrel
    rcases hcs with ⟨sc, d, L', hRA, hCa, hne, hd, hrun, hns, hle⟩ | ⟨hRA, hRe⟩
    · obtain ⟨sS, sT, sL⟩ := hCa.scanT
      have hTE := hCa.TE
      have hscL := sL hne
      have hn8 : (n : Int) < 8000 := by omega
      have hnm : (n : Int) < 9223372036854775807 := by omega
      have KA := zl hRA rfl
      obtain ⟨aN, haN⟩ : ∃ y, y = zcs S sc a := ⟨_, rfl⟩
      obtain ⟨s2, hs2⟩ : ∃ s2, s2 = sc + szA a.ws sc := ⟨_, rfl⟩
      have HSC : Hid (∀ W, W.rowIs ba 30 10 (fun i => (#[.slice (some ⟨bw, 0, none⟩) ws.length cw, .int .i64 sm, .int .i64 toh, .int .i64 (a.T : Int), .bool true, .int .i64 (sc : Int), .int .i64 old, .int .i64 (a.C : Int), .int .i64 sr, .slice ar rs.length cr] : Array Value).getD i (.bool false)) -> RwW W bw a.ws -> Calls Tryz.prog 183 #[.pointer (some ⟨ba, 0, none⟩)] W fun e w' => e = .returned (.tuple #[]) /\ w'.rowIs ba 30 10 (fun i => (#[.slice (some ⟨bw, 0, none⟩) ws.length cw, .int .i64 sm, .int .i64 toh, .int .i64 (aN.T : Int), .bool true, .int .i64 (s2 : Int), .int .i64 old, .int .i64 (aN.C : Int), .int .i64 sr, .slice ar rs.length cr] : Array Value).getD i (.bool false)) /\ RwW w' bw aN.ws /\ Kp [ba, bw] W w') := fun W h1 h2 => by
       rw [haN, hs2]
       rw [<- hlen] at h1 ⊢
       exact zik ba bw cw a.ws sm toh a.T sc old a.C sr ar cr rs W h1 h2 hab (by omega) hCa hscL HH.out hle hE8
      obtain ⟨M2, hC2, hl2, hT2⟩ := hCa.obj hscL
      rw [<- haN, <- hs2] at hC2
      rw [<- haN] at hl2
      obtain ⟨d', hd'⟩ : ∃ d', d = d' + 1 := ⟨d - 1, by omega⟩
      have hsg := zjn a.ws sc
      have HRUN2 : Hid (zbk S d' aN s2 (n + 1) = R) := by
       show zbk S d' aN s2 (n + 1) = R
       rw [<- hrun, hd', zf8 hne, <- haN, <- hs2]
      have hd2 : E <= s2 + d' := by omega
      have hn2 : n + 1 + sn <= s2 := by omega
      have HC2 : Hid (Cyc aN S E F Od s2 0 (L' ++ M2) O) := hC2
      have HLE2 : Hid (aN.C <= aN.T + 8000) := by rw [haN]; exact zf5 hle _
      have HL2 : Hid (aN.ws.length = ws.length) := hl2.trans hlen
      have HWr : Hid (RwW wr bw a.ws) := hWr
      have HRA : Hid (wr.rowIs ba 30 10 (fun i => (#[.slice (some ⟨bw, 0, none⟩) ws.length cw, .int .i64 sm, .int .i64 toh, .int .i64 (a.T : Int), .bool true, .int .i64 (sc : Int), .int .i64 old, .int .i64 (a.C : Int), .int .i64 sr, .slice ar rs.length cr] : Array Value).getD i (.bool false))) := hRA
      have HKr : Hid (Kp [ba, bw] w wr) := hKr
      clear hWr hKr hRA hC2 hl2 hT2 haN hs2 hd' hrun hlen hCa
      go_wp2_with fail
      refine (HSC.out _ HRA.out HWr.out).mono ?_
      rintro e w5 ⟨rfl, hR5, hW5, hK5⟩
      have HR5 : Hid (w5.rowIs ba 30 10 (fun i => (#[.slice (some ⟨bw, 0, none⟩) ws.length cw, .int .i64 sm, .int .i64 toh, .int .i64 (aN.T : Int), .bool true, .int .i64 (s2 : Int), .int .i64 old, .int .i64 (aN.C : Int), .int .i64 sr, .slice ar rs.length cr] : Array Value).getD i (.bool false))) := hR5
      have HW5 : Hid (RwW w5 bw aN.ws) := hW5
      have HK5 : Hid (Kp [ba, bw] w w5) := HKr.out.trans hK5
      clear hR5 hW5 hK5 HSC KA
      go_wp2_with fail
      by_cases hov : s2 = aN.T
      · have HOV : Hid (s2 = aN.T) := hov
        rw [<- hov] at HR5
        clear hov
        refine (zf4 ba bw cw ws sm toh (s2 : Int) old (aN.C : Int) sr ar cr rs _ HR5.out).mono ?_
        rintro e w6 ⟨rfl, hR6, hK6⟩
        have HR6 : Hid (w6.rowIs ba 30 10 (fun i => (#[.slice (some ⟨bw, 0, none⟩) ws.length cw, .int .i64 sm, .int .i64 toh, .int .i64 (s2 : Int), .bool false, .int .i64 0, .int .i64 0, .int .i64 0, .int .i64 sr, .slice ar rs.length cr] : Array Value).getD i (.bool false))) := hR6
        have HW6 : Hid (RwW w6 bw aN.ws) := Rw.kp HW5.out hK6 (by simp; omega)
        have HK6 : Hid (Kp [ba, bw] w w6) := HK5.out.trans (hK6.mono (fun y hy => by simp at hy; simp [hy]))
        clear hR6 hK6
        go_wp2
        refine ⟨⟨n + 1, aN, by go_num, HW6.out, HL2.out, HK6.out, .inr ⟨?_, ?_⟩⟩, by simp [intOf]; omega⟩
        · rw [<- HOV.out]
          exact HR6.out
        · rw [<- HRUN2.out, ze1 _ _ _ _ _ HOV.out]
      · have HOV : Hid (¬ s2 = aN.T) := hov
        clear hov
        refine (ze9 ba bw cw ws sm toh (aN.T : Int) true (s2 : Int) old (aN.C : Int) sr ar cr rs _ HR5.out (by intro g; exact HOV.out (by have := g.2; omega))).mono ?_
        rintro e w6 ⟨rfl, b6⟩
        have HR6 : Hid (w6.rowIs ba 30 10 (fun i => (#[.slice (some ⟨bw, 0, none⟩) ws.length cw, .int .i64 sm, .int .i64 toh, .int .i64 (aN.T : Int), .bool true, .int .i64 (s2 : Int), .int .i64 old, .int .i64 (aN.C : Int), .int .i64 sr, .slice ar rs.length cr] : Array Value).getD i (.bool false))) := HR5.out.of_block (b6.block _ HR5.out.lt)
        have HW6 : Hid (RwW w6 bw aN.ws) := Rw.below HW5.out b6
        have HK6 : Hid (Kp [ba, bw] w w6) := HK5.out.next b6
        clear b6
        go_wp2
        exact ⟨⟨n + 1, aN, by go_num, HW6.out, HL2.out, HK6.out, .inl ⟨s2, d', L' ++ M2, HR6.out, HC2.out, HOV.out, hd2, HRUN2.out, hn2, HLE2.out⟩⟩, by simp [intOf]; omega⟩
    · have HRe : Hid (R = (a, n)) := hRe
      have hnm : (n : Int) < 9223372036854775807 := by rw [hRe] at hR2; dsimp only at hR2; omega
      have KA := zl hRA rfl
      have HRA : Hid (wr.rowIs ba 30 10 (fun i => (#[.slice (some ⟨bw, 0, none⟩) ws.length cw, .int .i64 sm, .int .i64 toh, .int .i64 (a.T : Int), .bool false, .int .i64 0, .int .i64 0, .int .i64 0, .int .i64 sr, .slice ar rs.length cr] : Array Value).getD i (.bool false))) := hRA
      have HWr : Hid (RwW wr bw a.ws) := hWr
      have HKr : Hid (Kp [ba, bw] w wr) := hKr
      clear hRA hWr hKr hRe
      go_wp2
      refine bodyPost_ret (v := .int .i64 (n : Int)) (by simp [results, Tryz.results153, go_sem]) rfl ?_
      rw [HRe.out]
      exact ⟨rfl, HRA.out, HWr.out, HKr.out⟩
 · refine (ze9 ba bw cw ws sm toh (T : Int) true (sn : Int) old (C : Int) sr ar cr rs _ HA.out (by intro g; exact hst (by have := g.2; omega))).mono ?_
   rintro e w1 ⟨rfl, b1⟩
   have HR1 : Hid (w1.rowIs ba 30 10 (fun i => (#[.slice (some ⟨bw, 0, none⟩) ws.length cw, .int .i64 sm, .int .i64 toh, .int .i64 (T : Int), .bool true, .int .i64 (sn : Int), .int .i64 old, .int .i64 (C : Int), .int .i64 sr, .slice ar rs.length cr] : Array Value).getD i (.bool false))) := HA.out.of_block (b1.block _ lba)
   have HW1 : Hid (RwW w1 bw ws) := Rw.below HW.out b1
   have HK1 : Hid (Kp [ba, bw] w w1) := Kp.of_below b1
   clear b1 KA
   go_wp2_with fail
   go_loopw [5] (fun u3 wr => ∃ (n : Nat) (a : Cp), u3 = .int .i64 n /\ RwW wr bw a.ws /\ a.ws.length = ws.length /\ Kp [ba, bw] w wr /\ ((∃ (sc d : Nat) (L' : List Nat), wr.rowIs ba 30 10 (fun i => (#[.slice (some ⟨bw, 0, none⟩) ws.length cw, .int .i64 sm, .int .i64 toh, .int .i64 (a.T : Int), .bool true, .int .i64 (sc : Int), .int .i64 old, .int .i64 (a.C : Int), .int .i64 sr, .slice ar rs.length cr] : Array Value).getD i (.bool false)) /\ Cyc a S E F Od sc 0 L' O /\ sc ≠ a.T /\ E <= sc + d /\ zbk S d a sc n = R /\ n + sn <= sc /\ a.C <= a.T + 8000) \/ (wr.rowIs ba 30 10 (fun i => (#[.slice (some ⟨bw, 0, none⟩) ws.length cw, .int .i64 sm, .int .i64 toh, .int .i64 (a.T : Int), .bool false, .int .i64 0, .int .i64 0, .int .i64 0, .int .i64 sr, .slice ar rs.length cr] : Array Value).getD i (.bool false)) /\ R = (a, n)))) (fun u3 _ => 8000 - (intOf u3).toNat)
   case atStart => exact ⟨0, ⟨ws, T, C⟩, rfl, HW1.out, rfl, HK1.out, .inl ⟨sn, E, L, HR1.out, HC.out, hst, by omega, HR.out.symm, by omega, hCT⟩⟩
   case round =>
    obtain ⟨n, a, rfl, hWr, hlen, hKr, hcs⟩ := hrel
    rcases hcs with ⟨sc, d, L', hRA, hCa, hne, hd, hrun, hns, hle⟩ | ⟨hRA, hRe⟩
    · obtain ⟨sS, sT, sL⟩ := hCa.scanT
      have hTE := hCa.TE
      have hscL := sL hne
      have hn8 : (n : Int) < 8000 := by omega
      have hnm : (n : Int) < 9223372036854775807 := by omega
      have KA := zl hRA rfl
      obtain ⟨aN, haN⟩ : ∃ y, y = zcs S sc a := ⟨_, rfl⟩
      obtain ⟨s2, hs2⟩ : ∃ s2, s2 = sc + szA a.ws sc := ⟨_, rfl⟩
      have HSC : Hid (∀ W, W.rowIs ba 30 10 (fun i => (#[.slice (some ⟨bw, 0, none⟩) ws.length cw, .int .i64 sm, .int .i64 toh, .int .i64 (a.T : Int), .bool true, .int .i64 (sc : Int), .int .i64 old, .int .i64 (a.C : Int), .int .i64 sr, .slice ar rs.length cr] : Array Value).getD i (.bool false)) -> RwW W bw a.ws -> Calls Tryz.prog 183 #[.pointer (some ⟨ba, 0, none⟩)] W fun e w' => e = .returned (.tuple #[]) /\ w'.rowIs ba 30 10 (fun i => (#[.slice (some ⟨bw, 0, none⟩) ws.length cw, .int .i64 sm, .int .i64 toh, .int .i64 (aN.T : Int), .bool true, .int .i64 (s2 : Int), .int .i64 old, .int .i64 (aN.C : Int), .int .i64 sr, .slice ar rs.length cr] : Array Value).getD i (.bool false)) /\ RwW w' bw aN.ws /\ Kp [ba, bw] W w') := fun W h1 h2 => by
       rw [haN, hs2]
       rw [<- hlen] at h1 ⊢
       exact zik ba bw cw a.ws sm toh a.T sc old a.C sr ar cr rs W h1 h2 hab (by omega) hCa hscL HH.out hle hE8
      obtain ⟨M2, hC2, hl2, hT2⟩ := hCa.obj hscL
      rw [<- haN, <- hs2] at hC2
      rw [<- haN] at hl2
      obtain ⟨d', hd'⟩ : ∃ d', d = d' + 1 := ⟨d - 1, by omega⟩
      have hsg := zjn a.ws sc
      have HRUN2 : Hid (zbk S d' aN s2 (n + 1) = R) := by
       show zbk S d' aN s2 (n + 1) = R
       rw [<- hrun, hd', zf8 hne, <- haN, <- hs2]
      have hd2 : E <= s2 + d' := by omega
      have hn2 : n + 1 + sn <= s2 := by omega
      have HC2 : Hid (Cyc aN S E F Od s2 0 (L' ++ M2) O) := hC2
      have HLE2 : Hid (aN.C <= aN.T + 8000) := by rw [haN]; exact zf5 hle _
      have HL2 : Hid (aN.ws.length = ws.length) := hl2.trans hlen
      have HWr : Hid (RwW wr bw a.ws) := hWr
      have HRA : Hid (wr.rowIs ba 30 10 (fun i => (#[.slice (some ⟨bw, 0, none⟩) ws.length cw, .int .i64 sm, .int .i64 toh, .int .i64 (a.T : Int), .bool true, .int .i64 (sc : Int), .int .i64 old, .int .i64 (a.C : Int), .int .i64 sr, .slice ar rs.length cr] : Array Value).getD i (.bool false))) := hRA
      have HKr : Hid (Kp [ba, bw] w wr) := hKr
      clear hWr hKr hRA hC2 hl2 hT2 haN hs2 hd' hrun hlen hCa
      go_wp2_with fail
      refine (HSC.out _ HRA.out HWr.out).mono ?_
      rintro e w5 ⟨rfl, hR5, hW5, hK5⟩
      have HR5 : Hid (w5.rowIs ba 30 10 (fun i => (#[.slice (some ⟨bw, 0, none⟩) ws.length cw, .int .i64 sm, .int .i64 toh, .int .i64 (aN.T : Int), .bool true, .int .i64 (s2 : Int), .int .i64 old, .int .i64 (aN.C : Int), .int .i64 sr, .slice ar rs.length cr] : Array Value).getD i (.bool false))) := hR5
      have HW5 : Hid (RwW w5 bw aN.ws) := hW5
      have HK5 : Hid (Kp [ba, bw] w w5) := HKr.out.trans hK5
      clear hR5 hW5 hK5 HSC KA
      go_wp2_with fail
      by_cases hov : s2 = aN.T
      · have HOV : Hid (s2 = aN.T) := hov
        rw [<- hov] at HR5
        clear hov
        refine (zf4 ba bw cw ws sm toh (s2 : Int) old (aN.C : Int) sr ar cr rs _ HR5.out).mono ?_
        rintro e w6 ⟨rfl, hR6, hK6⟩
        have HR6 : Hid (w6.rowIs ba 30 10 (fun i => (#[.slice (some ⟨bw, 0, none⟩) ws.length cw, .int .i64 sm, .int .i64 toh, .int .i64 (s2 : Int), .bool false, .int .i64 0, .int .i64 0, .int .i64 0, .int .i64 sr, .slice ar rs.length cr] : Array Value).getD i (.bool false))) := hR6
        have HW6 : Hid (RwW w6 bw aN.ws) := Rw.kp HW5.out hK6 (by simp; omega)
        have HK6 : Hid (Kp [ba, bw] w w6) := HK5.out.trans (hK6.mono (fun y hy => by simp at hy; simp [hy]))
        clear hR6 hK6
        go_wp2
        refine ⟨⟨n + 1, aN, by go_num, HW6.out, HL2.out, HK6.out, .inr ⟨?_, ?_⟩⟩, by simp [intOf]; omega⟩
        · rw [<- HOV.out]
          exact HR6.out
        · rw [<- HRUN2.out, ze1 _ _ _ _ _ HOV.out]
      · have HOV : Hid (¬ s2 = aN.T) := hov
        clear hov
        refine (ze9 ba bw cw ws sm toh (aN.T : Int) true (s2 : Int) old (aN.C : Int) sr ar cr rs _ HR5.out (by intro g; exact HOV.out (by have := g.2; omega))).mono ?_
        rintro e w6 ⟨rfl, b6⟩
        have HR6 : Hid (w6.rowIs ba 30 10 (fun i => (#[.slice (some ⟨bw, 0, none⟩) ws.length cw, .int .i64 sm, .int .i64 toh, .int .i64 (aN.T : Int), .bool true, .int .i64 (s2 : Int), .int .i64 old, .int .i64 (aN.C : Int), .int .i64 sr, .slice ar rs.length cr] : Array Value).getD i (.bool false))) := HR5.out.of_block (b6.block _ HR5.out.lt)
        have HW6 : Hid (RwW w6 bw aN.ws) := Rw.below HW5.out b6
        have HK6 : Hid (Kp [ba, bw] w w6) := HK5.out.next b6
        clear b6
        go_wp2
        exact ⟨⟨n + 1, aN, by go_num, HW6.out, HL2.out, HK6.out, .inl ⟨s2, d', L' ++ M2, HR6.out, HC2.out, HOV.out, hd2, HRUN2.out, hn2, HLE2.out⟩⟩, by simp [intOf]; omega⟩
    · have HRe : Hid (R = (a, n)) := hRe
      have hnm : (n : Int) < 9223372036854775807 := by rw [hRe] at hR2; dsimp only at hR2; omega
      have KA := zl hRA rfl
      have HRA : Hid (wr.rowIs ba 30 10 (fun i => (#[.slice (some ⟨bw, 0, none⟩) ws.length cw, .int .i64 sm, .int .i64 toh, .int .i64 (a.T : Int), .bool false, .int .i64 0, .int .i64 0, .int .i64 0, .int .i64 sr, .slice ar rs.length cr] : Array Value).getD i (.bool false))) := hRA
      have HWr : Hid (RwW wr bw a.ws) := hWr
      have HKr : Hid (Kp [ba, bw] w wr) := hKr
      clear hRA hWr hKr hRe
      go_wp2
      refine bodyPost_ret (v := .int .i64 (n : Int)) (by simp [results, Tryz.results153, go_sem]) rfl ?_
      rw [HRe.out]
      exact ⟨rfl, HRA.out, HWr.out, HKr.out⟩
set_option maxHeartbeats 1000000 in
theorem zlw (ba bw cw : Nat) (ws : List Int) (sm toh top sn old cp sr : Int) (ar : Option Addr) (cr : Nat) (rs : List (Int × Int)) (w : World) (hA : w.rowIs ba 30 10 (fun i => (#[.slice (some ⟨bw, 0, none⟩) ws.length cw, .int .i64 sm, .int .i64 toh, .int .i64 top, .bool false, .int .i64 sn, .int .i64 old, .int .i64 cp, .int .i64 sr, .slice ar rs.length cr] : Array Value).getD i (.bool false))) :
 Calls Tryz.prog 153 #[.pointer (some ⟨ba, 0, none⟩), .int .i64 9223372036854775807] w fun e w' => e = .returned (.int .i64 0) /\ Below w.heap.size w w' := by
 have HA : Hid (w.rowIs ba 30 10 (fun i => (#[.slice (some ⟨bw, 0, none⟩) ws.length cw, .int .i64 sm, .int .i64 toh, .int .i64 top, .bool false, .int .i64 sn, .int .i64 old, .int .i64 cp, .int .i64 sr, .slice ar rs.length cr] : Array Value).getD i (.bool false))) := hA
 have lba := hA.lt
 clear hA
 go_enter Tryz.func153, Tryz.ntmps153
 go_wp2_with fail
 refine (ze9 ba bw cw ws sm toh top false sn old cp sr ar cr rs _ HA.out (by simp)).mono ?_
 rintro e w1 ⟨rfl, b1⟩
 have HR1 : Hid (w1.rowIs ba 30 10 (fun i => (#[.slice (some ⟨bw, 0, none⟩) ws.length cw, .int .i64 sm, .int .i64 toh, .int .i64 top, .bool false, .int .i64 sn, .int .i64 old, .int .i64 cp, .int .i64 sr, .slice ar rs.length cr] : Array Value).getD i (.bool false))) := HA.out.of_block (b1.block _ lba)
 go_wp2_with fail
 go_loopw [5] (fun u5 wr => u5 = .int .i64 0 /\ wr = w1) (fun _ _ => 0)
 case atStart => exact ⟨rfl, rfl⟩
 case round =>
  obtain ⟨rfl, rfl⟩ := hrel
  have KA := zl HR1.out rfl
  go_wp2
  exact bodyPost_ret (v := .int .i64 0) (by simp [results, Tryz.results153, go_sem]) rfl ⟨rfl, b1⟩
theorem zr4 (ba bw cw : Nat) (ws : List Int) (sm toh top sn old cp sr : Int) (ar : Option Addr) (cr : Nat) (rs : List (Int × Int)) (w : World) (hA : w.rowIs ba 30 10 (fun i => (#[.slice (some ⟨bw, 0, none⟩) ws.length cw, .int .i64 sm, .int .i64 toh, .int .i64 top, .bool false, .int .i64 sn, .int .i64 old, .int .i64 cp, .int .i64 sr, .slice ar rs.length cr] : Array Value).getD i (.bool false))) :
 Calls Tryz.prog 107 #[.pointer (some ⟨ba, 0, none⟩)] w fun e w' => e = .returned (.int .i64 0) /\ Below w.heap.size w w' := by
 go_enter Tryz.func107, Tryz.ntmps107
 go_wp2_with fail
 refine (zlw ba bw cw ws sm toh top sn old cp sr ar cr rs _ hA).mono ?_
 rintro e w1 ⟨rfl, b1⟩
 clear hA
 go_wp2
 exact bodyPost_ret (v := .int .i64 0) (by simp [results, Tryz.results107, go_sem]) rfl ⟨rfl, b1⟩
theorem zpu (ba bw cw : Nat) (ws : List Int) (sm toh : Int) (T sn : Nat) (old : Int) (C : Nat) (sr : Int) (ar : Option Addr) (cr : Nat) (rs : List (Int × Int)) (w : World) {S E F Od : Nat} {L O : List Nat} {R : Cp × Nat} (hA : w.rowIs ba 30 10 (fun i => (#[.slice (some ⟨bw, 0, none⟩) ws.length cw, .int .i64 sm, .int .i64 toh, .int .i64 (T : Int), .bool true, .int .i64 (sn : Int), .int .i64 old, .int .i64 (C : Int), .int .i64 sr, .slice ar rs.length cr] : Array Value).getD i (.bool false))) (hW : RwW w bw ws) (hab : ba ≠ bw) (hcw : ws.length <= cw) (hC : Cyc ⟨ws, T, C⟩ S E F Od sn 0 L O) (hH : zby sm toh S E F Od) (hCT : C <= T + 8000) (hE8 : E <= 8000) (hR : R = zbk S E ⟨ws, T, C⟩ sn 0) :
 Calls Tryz.prog 107 #[.pointer (some ⟨ba, 0, none⟩)] w fun e w' => e = .returned (.int .i64 (R.2 : Int)) /\ w'.rowIs ba 30 10 (fun i => (#[.slice (some ⟨bw, 0, none⟩) ws.length cw, .int .i64 sm, .int .i64 toh, .int .i64 (R.1.T : Int), .bool false, .int .i64 0, .int .i64 0, .int .i64 0, .int .i64 sr, .slice ar rs.length cr] : Array Value).getD i (.bool false)) /\ RwW w' bw R.1.ws /\ Kp [ba, bw] w w' := by
 go_enter Tryz.func107, Tryz.ntmps107
 go_wp2_with fail
 refine (zlc ba bw cw ws sm toh T sn old C sr ar cr rs w hA hW hab hcw hC hH hCT hE8 hR).mono ?_
 rintro e w1 ⟨rfl, h1, h2, h3⟩
 clear hA hW hC hH hR
 have H1 : Hid (w1.rowIs ba 30 10 (fun i => (#[.slice (some ⟨bw, 0, none⟩) ws.length cw, .int .i64 sm, .int .i64 toh, .int .i64 (R.1.T : Int), .bool false, .int .i64 0, .int .i64 0, .int .i64 0, .int .i64 sr, .slice ar rs.length cr] : Array Value).getD i (.bool false))) := h1
 have H2 : Hid (RwW w1 bw R.1.ws) := h2
 have H3 : Hid (Kp [ba, bw] w w1) := h3
 clear h1 h2 h3
 go_wp2
 exact bodyPost_ret (v := .int .i64 (R.2 : Int)) (by simp [results, Tryz.results107, go_sem]) rfl ⟨rfl, H1.out, H2.out, H3.out⟩
end Go.Proofs.YtaapiedminakcaaGreat
