/- - -/
import Derived.Test.YtaapiedminakcaaGreatPFwJ
namespace Go.Proofs.YtaapiedminakcaaGreat
set_option maxRecDepth 20000
open Go.RowKit
set_option linter.unusedSimpArgs false
set_option linter.unusedVariables false
theorem zfd {W w : World} {X : List Nat} {k : Nat} {c0 c1 c2 c3 c4 c5 c6 c7 c8 c9 : Value} (h : Kp X w W) (hk : w.heap.size <= k) :
 Kp X w ((((((((((W.setCell ⟨k, 0, none⟩ c0).setCell ⟨k, 1, none⟩ c1).setCell ⟨k, 2, none⟩ c2).setCell ⟨k, 3, none⟩ c3).setCell ⟨k, 4, none⟩ c4).setCell ⟨k, 5, none⟩ c5).setCell ⟨k, 6, none⟩ c6).setCell ⟨k, 7, none⟩ c7).setCell ⟨k, 8, none⟩ c8).setCell ⟨k, 9, none⟩ c9) :=
 (((((((((h.setCell (p := ⟨k, 0, none⟩) (.inr hk) _).setCell (p := ⟨k, 1, none⟩) (.inr hk) _).setCell (p := ⟨k, 2, none⟩) (.inr hk) _).setCell (p := ⟨k, 3, none⟩) (.inr hk) _).setCell (p := ⟨k, 4, none⟩) (.inr hk) _).setCell (p := ⟨k, 5, none⟩) (.inr hk) _).setCell (p := ⟨k, 6, none⟩) (.inr hk) _).setCell (p := ⟨k, 7, none⟩) (.inr hk) _).setCell (p := ⟨k, 8, none⟩) (.inr hk) _).setCell (p := ⟨k, 9, none⟩) (.inr hk) _
theorem zs0 {W w : World} {X : List Nat} {k : Nat} {c0 c1 c2 c3 c4 c5 c6 c7 c8 c9 : Value} (h : Kp X w W) (hk : k ∈ X) :
 Kp X w ((((((((((W.setCell ⟨k, 0, none⟩ c0).setCell ⟨k, 1, none⟩ c1).setCell ⟨k, 2, none⟩ c2).setCell ⟨k, 3, none⟩ c3).setCell ⟨k, 4, none⟩ c4).setCell ⟨k, 5, none⟩ c5).setCell ⟨k, 6, none⟩ c6).setCell ⟨k, 7, none⟩ c7).setCell ⟨k, 8, none⟩ c8).setCell ⟨k, 9, none⟩ c9) :=
 (((((((((h.setCell (p := ⟨k, 0, none⟩) (.inl hk) _).setCell (p := ⟨k, 1, none⟩) (.inl hk) _).setCell (p := ⟨k, 2, none⟩) (.inl hk) _).setCell (p := ⟨k, 3, none⟩) (.inl hk) _).setCell (p := ⟨k, 4, none⟩) (.inl hk) _).setCell (p := ⟨k, 5, none⟩) (.inl hk) _).setCell (p := ⟨k, 6, none⟩) (.inl hk) _).setCell (p := ⟨k, 7, none⟩) (.inl hk) _).setCell (p := ⟨k, 8, none⟩) (.inl hk) _).setCell (p := ⟨k, 9, none⟩) (.inl hk) _
theorem zam {W : World} {k x : Nat} {c0 c1 c2 c3 c4 c5 c6 c7 c8 c9 : Value} (hk : x ≠ k) :
 ((((((((((W.setCell ⟨k, 0, none⟩ c0).setCell ⟨k, 1, none⟩ c1).setCell ⟨k, 2, none⟩ c2).setCell ⟨k, 3, none⟩ c3).setCell ⟨k, 4, none⟩ c4).setCell ⟨k, 5, none⟩ c5).setCell ⟨k, 6, none⟩ c6).setCell ⟨k, 7, none⟩ c7).setCell ⟨k, 8, none⟩ c8).setCell ⟨k, 9, none⟩ c9).heap[x]? = W.heap[x]? :=
 (Below.heap_setCell _ _ _ x hk).trans ((Below.heap_setCell _ _ _ x hk).trans ((Below.heap_setCell _ _ _ x hk).trans ((Below.heap_setCell _ _ _ x hk).trans ((Below.heap_setCell _ _ _ x hk).trans ((Below.heap_setCell _ _ _ x hk).trans ((Below.heap_setCell _ _ _ x hk).trans ((Below.heap_setCell _ _ _ x hk).trans ((Below.heap_setCell _ _ _ x hk).trans (Below.heap_setCell _ _ _ x hk)))))))))
theorem ze5 {W : World} {k : Nat} {t : TypeId} {f : Nat -> Value} {A : Array Value} {c0 c1 c2 c3 c4 c5 c6 c7 c8 c9 : Value} (h : W.rowIs k t 10 f) (e0 : A.getD 0 (.bool false) = c0) (e1 : A.getD 1 (.bool false) = c1) (e2 : A.getD 2 (.bool false) = c2) (e3 : A.getD 3 (.bool false) = c3) (e4 : A.getD 4 (.bool false) = c4) (e5 : A.getD 5 (.bool false) = c5) (e6 : A.getD 6 (.bool false) = c6) (e7 : A.getD 7 (.bool false) = c7) (e8 : A.getD 8 (.bool false) = c8) (e9 : A.getD 9 (.bool false) = c9) :
 ((((((((((W.setCell ⟨k, 0, none⟩ c0).setCell ⟨k, 1, none⟩ c1).setCell ⟨k, 2, none⟩ c2).setCell ⟨k, 3, none⟩ c3).setCell ⟨k, 4, none⟩ c4).setCell ⟨k, 5, none⟩ c5).setCell ⟨k, 6, none⟩ c6).setCell ⟨k, 7, none⟩ c7).setCell ⟨k, 8, none⟩ c8).setCell ⟨k, 9, none⟩ c9).rowIs k t 10 (fun i => A.getD i (.bool false)) := by
 refine ((((((((((h.set 0 c0).set 1 c1).set 2 c2).set 3 c3).set 4 c4).set 5 c5).set 6 c6).set 7 c7).set 8 c8).set 9 c9).congr fun i hi => ?_
 have hi2 : i = 0 \/ i = 1 \/ i = 2 \/ i = 3 \/ i = 4 \/ i = 5 \/ i = 6 \/ i = 7 \/ i = 8 \/ i = 9 := by omega
 subst e0 e1 e2 e3 e4 e5 e6 e7 e8 e9
 rcases hi2 with rfl | rfl | rfl | rfl | rfl | rfl | rfl | rfl | rfl | rfl <;> rfl
theorem zfr {W : World} {k : Nat} {t : TypeId} {f : Nat -> Value} {A : Array Value} {c0 c1 : Value} (h : W.rowIs k t 2 f) (e0 : A.getD 0 (.bool false) = c0) (e1 : A.getD 1 (.bool false) = c1) :
 ((W.setCell ⟨k, 0, none⟩ c0).setCell ⟨k, 1, none⟩ c1).rowIs k t 2 (fun i => A.getD i (.bool false)) := by
 refine ((h.set 0 c0).set 1 c1).congr fun i hi => ?_
 have hi2 : i = 0 \/ i = 1 := by omega
 subst e0 e1
 rcases hi2 with rfl | rfl <;> rfl
theorem zdg {W : World} {A : Array Value} {t : TypeId} {n : Nat} (hA : A.size = n) : (W.alloc (.cells A t)).rowIs W.heap.size t n (fun i => A.getD i (.bool false)) :=
 ⟨A, Go.Deep.blk_alloc_new _ _, hA, fun i hi => by simp [Array.getD, show i < A.size by omega]⟩
set_option maxHeartbeats 1000000 in
theorem zra (bw cw : Nat) (ws : List Int) (sm toh sn old cp sr : Int) (ar : Option Addr) (cr : Nat) (rs : List (Int × Int)) (w : World) :
 Calls Tryz.prog 148 #[.agg #[.slice (some ⟨bw, 0, none⟩) ws.length cw, .int .i64 sm, .int .i64 toh, .int .i64 sn, .bool true, .int .i64 sn, .int .i64 old, .int .i64 cp, .int .i64 sr, .slice ar rs.length cr]] w fun e w' => e = .returned (.agg #[.slice (some ⟨bw, 0, none⟩) ws.length cw, .int .i64 sm, .int .i64 toh, .int .i64 sn, .bool false, .int .i64 0, .int .i64 0, .int .i64 0, .int .i64 sr, .slice ar rs.length cr]) /\ Below w.heap.size w w' := by
 go_enter Tryz.func148, Tryz.ntmps148
 go_wp2
 exact bodyPost_ret (v := .agg #[.slice (some ⟨bw, 0, none⟩) ws.length cw, .int .i64 sm, .int .i64 toh, .int .i64 sn, .bool false, .int .i64 0, .int .i64 0, .int .i64 0, .int .i64 sr, .slice ar rs.length cr]) (by simp [results, Tryz.results148, go_sem]) rfl ⟨rfl, ((Below.refl _ _).alloc (Nat.le_refl _) _).alloc (by simp) _⟩
set_option maxHeartbeats 1000000 in
theorem zs1 (bw cw : Nat) (ws : List Int) (sm toh top : Int) (cyc : Bool) (sn old cp sr : Int) (ar : Option Addr) (cr : Nat) (rs : List (Int × Int)) (w : World) (h : ¬ (cyc = true /\ sn = top)) :
 Calls Tryz.prog 148 #[.agg #[.slice (some ⟨bw, 0, none⟩) ws.length cw, .int .i64 sm, .int .i64 toh, .int .i64 top, .bool cyc, .int .i64 sn, .int .i64 old, .int .i64 cp, .int .i64 sr, .slice ar rs.length cr]] w fun e w' => e = .returned (.agg #[.slice (some ⟨bw, 0, none⟩) ws.length cw, .int .i64 sm, .int .i64 toh, .int .i64 top, .bool cyc, .int .i64 sn, .int .i64 old, .int .i64 cp, .int .i64 sr, .slice ar rs.length cr]) /\ Below w.heap.size w w' := by
 cases cyc with
 | false =>
   go_enter Tryz.func148, Tryz.ntmps148
   go_wp2
   exact bodyPost_ret (v := .agg #[.slice (some ⟨bw, 0, none⟩) ws.length cw, .int .i64 sm, .int .i64 toh, .int .i64 top, .bool false, .int .i64 sn, .int .i64 old, .int .i64 cp, .int .i64 sr, .slice ar rs.length cr]) (by simp [results, Tryz.results148, go_sem]) rfl ⟨rfl, ((Below.refl _ _).alloc (Nat.le_refl _) _).alloc (by simp) _⟩
 | true =>
   have hne : (sn == top) = false := beq_eq_false_iff_ne.2 (fun g => h ⟨rfl, g⟩)
   clear h
   go_enter Tryz.func148, Tryz.ntmps148
   go_wp2
   exact bodyPost_ret (v := .agg #[.slice (some ⟨bw, 0, none⟩) ws.length cw, .int .i64 sm, .int .i64 toh, .int .i64 top, .bool true, .int .i64 sn, .int .i64 old, .int .i64 cp, .int .i64 sr, .slice ar rs.length cr]) (by simp [results, Tryz.results148, go_sem]) rfl ⟨rfl, ((Below.refl _ _).alloc (Nat.le_refl _) _).alloc (by simp) _⟩
def zdw (w : World) (ar : Option Addr) (br n : Nat) (y : Nat -> Int) : Prop := n = 0 \/ (ar = some ⟨br, 0, none⟩ /\ RwR w br n y)
def ovB (S T : Nat) : Bool := !decide (T = S)
def ovI (S T : Nat) (x : Int) : Int := if T = S then 0 else x
theorem zu3 {a b x : Nat} {w w2 wr : World} (h : Below w.heap.size w w2) (k : Kp [a, b, x] w2 wr) (hx : w.heap.size <= x) : Kp [a, b] w wr :=
 ⟨k.os.trans h.os, k.tape.trans h.tape, k.output.trans h.output, Nat.le_trans h.size k.size, fun j hj hn => by
  rw [k.block j (Nat.lt_of_lt_of_le hj h.size) (by simp at hn ⊢; exact ⟨hn.1, hn.2, by omega⟩), h.block j hj]⟩
theorem zkt {W : World} {br n r : Nat} {y : Nat -> Int} {t m : Int} (h : RwR W br n y) : RwR ((W.setCell ⟨br, r * 2, none⟩ (.int .i64 t)).setCell ⟨br, r * 2 + 1, none⟩ (.int .i64 m)) br n (zey y r t m) := by
 refine (Rw.set (Rw.set h (r * 2) _) (r * 2 + 1) _).congr fun j hj => ?_
 unfold zey
 by_cases e1 : j = r * 2 + 1
 · subst e1
   rw [if_pos rfl, if_neg (by omega), if_pos (by omega)]
 · by_cases e2 : j = r * 2
   · subst e2
     rw [if_neg (by omega), if_pos rfl, if_pos (by omega)]
   · rw [if_neg e1, if_neg e2, if_neg (by omega), if_neg (by omega)]
set_option maxHeartbeats 4000000 in
theorem zs2 (bw cw br : Nat) (ws : List Int) (sm toh : Int) (T : Nat) (cyc : Bool) (sn old cp sr : Int) (ar : Option Addr) (cr : Nat) (rs : List (Int × Int)) (y : Nat -> Int) (w : World) {S E S' E' : Nat} {L : List Nat} (hW : RwW w bw ws) (hR : zdw w ar br rs.length y) (hbr : br < w.heap.size) (hne0 : 0 < rs.length -> bw ≠ br) (hSt : zfg ws S T E L) (hy : zek y rs.length L) (hH : zd2 sm (1 - toh) S' E' S T) (h1 : E' <= S \/ T <= S') (h2 : S' + (T - S) <= E') (h3 : E' <= ws.length) (h4 : 1 <= S') (hrl : rs.length <= 24) :
 Calls Tryz.prog 104 #[.agg #[.slice (some ⟨bw, 0, none⟩) ws.length cw, .int .i64 sm, .int .i64 toh, .int .i64 (T : Int), .bool cyc, .int .i64 sn, .int .i64 old, .int .i64 cp, .int .i64 sr, .slice ar rs.length cr]] w fun e w' => e = .returned (.agg #[.slice (some ⟨bw, 0, none⟩) ws.length cw, .int .i64 sm, .int .i64 (1 - toh), .int .i64 ((zh S' ⟨ws, S', 0⟩ y rs.length).1.T : Int), .bool (ovB S' (zh S' ⟨ws, S', 0⟩ y rs.length).1.T), .int .i64 (ovI S' (zh S' ⟨ws, S', 0⟩ y rs.length).1.T (S' : Int)), .int .i64 (ovI S' (zh S' ⟨ws, S', 0⟩ y rs.length).1.T (T : Int)), .int .i64 (ovI S' (zh S' ⟨ws, S', 0⟩ y rs.length).1.T ((zh S' ⟨ws, S', 0⟩ y rs.length).1.C : Int)), .int .i64 sr, .slice ar rs.length cr]) /\ RwW w' bw (zh S' ⟨ws, S', 0⟩ y rs.length).1.ws /\ zdw w' ar br rs.length (zh S' ⟨ws, S', 0⟩ y rs.length).2 /\ Kp [bw, br] w w' := by
 have t0 := hH.t0
 have t1 := hH.t1
 have s0 := hH.s0
 have s1 := hH.s1
 have hS' := hH.hS
 have HST : Hid (zfg ws S T E L) := hSt
 have HY : Hid (zek y rs.length L) := hy
 have HH : Hid (zd2 sm (1 - toh) S' E' S T) := hH
 have HW : Hid (RwW w bw ws) := hW
 have HR : Hid (zdw w ar br rs.length y) := hR
 clear hSt hy hH hW hR
 go_enter Tryz.func104, Tryz.ntmps104
 go_wp2_with fail
 refine (zch _ _ _ _ _ _ _ _ _ _ _ _ _ _ (1 - toh) (S' : Int) _ t0 t1 s0 s1 hS').mono ?_
 rintro e w1 ⟨rfl, b1⟩
 obtain ⟨RA, RX⟩ := zdr (n := 10) b1 (by simp) rfl rfl
 have B1 := zo b1
 have z1 := zc2 b1
 have KA := zz RA rfl
 have fa := RA.frozen
 have HRA : Hid (w1.rowIs w.heap.size 30 10 (fun i => (#[.slice (some ⟨bw, 0, none⟩) ws.length cw, .int .i64 sm, .int .i64 (1 - toh), .int .i64 (T : Int), .bool cyc, .int .i64 sn, .int .i64 (T : Int), .int .i64 cp, .int .i64 sr, .slice ar rs.length cr] : Array Value).getD i (.bool false))) := RA
 have HRX : Hid (w1.rowIs (w.heap.size + 1) 30 10 (fun i => (#[.slice none 0 0, .int .i64 0, .int .i64 0, .int .i64 0, .bool false, .int .i64 0, .int .i64 0, .int .i64 0, .int .i64 0, .slice none 0 0] : Array Value).getD i (.bool false))) := RX
 have HB1 : Hid (Below w.heap.size w w1) := B1
 clear b1 RA RX B1
 go_wp2
 obtain ⟨w2, hw2⟩ : ∃ V, V = (((w1.setCell ⟨w.heap.size, 3, none⟩ (.int .i64 (S' : Int))).setCell ⟨w.heap.size, 5, none⟩ (.int .i64 (S' : Int))).setCell ⟨w.heap.size, 7, none⟩ (.int .i64 0)).setCell ⟨w.heap.size, 4, none⟩ (.bool true) := ⟨_, rfl⟩
 rw [<- hw2]
 have HW2 : Hid (RwW w2 bw ws) := by
  show RwW w2 bw ws
  rw [hw2]
  have h0 := Rw.below HW.out HB1.out
  have hb := HW.out.lt
  exact Rw.other (Rw.other (Rw.other (Rw.other h0 (p := ⟨w.heap.size, 3, none⟩) (by show bw ≠ w.heap.size; omega) _) (p := ⟨w.heap.size, 5, none⟩) (by show bw ≠ w.heap.size; omega) _) (p := ⟨w.heap.size, 7, none⟩) (by show bw ≠ w.heap.size; omega) _) (p := ⟨w.heap.size, 4, none⟩) (by show bw ≠ w.heap.size; omega) _
 have HRA2 : Hid (w2.rowIs w.heap.size 30 10 (fun i => (#[.slice (some ⟨bw, 0, none⟩) ws.length cw, .int .i64 sm, .int .i64 (1 - toh), .int .i64 (S' : Int), .bool true, .int .i64 (S' : Int), .int .i64 (T : Int), .int .i64 0, .int .i64 sr, .slice ar rs.length cr] : Array Value).getD i (.bool false))) := by
  show w2.rowIs w.heap.size 30 10 (fun i => (#[.slice (some ⟨bw, 0, none⟩) ws.length cw, .int .i64 sm, .int .i64 (1 - toh), .int .i64 (S' : Int), .bool true, .int .i64 (S' : Int), .int .i64 (T : Int), .int .i64 0, .int .i64 sr, .slice ar rs.length cr] : Array Value).getD i (.bool false))
  rw [hw2]
  refine ((((HRA.out.set 3 _).set 5 _).set 7 _).set 4 _).congr fun i hi => ?_
  have hi2 : i = 0 \/ i = 1 \/ i = 2 \/ i = 3 \/ i = 4 \/ i = 5 \/ i = 6 \/ i = 7 \/ i = 8 \/ i = 9 := by omega
  rcases hi2 with rfl | rfl | rfl | rfl | rfl | rfl | rfl | rfl | rfl | rfl <;> rfl
 have HRX2 : Hid (w2.rowIs (w.heap.size + 1) 30 10 (fun i => (#[.slice none 0 0, .int .i64 0, .int .i64 0, .int .i64 0, .bool false, .int .i64 0, .int .i64 0, .int .i64 0, .int .i64 0, .slice none 0 0] : Array Value).getD i (.bool false))) := by
  show w2.rowIs (w.heap.size + 1) 30 10 (fun i => (#[.slice none 0 0, .int .i64 0, .int .i64 0, .int .i64 0, .bool false, .int .i64 0, .int .i64 0, .int .i64 0, .int .i64 0, .slice none 0 0] : Array Value).getD i (.bool false))
  rw [hw2]
  exact (((HRX.out.setOther (a := ⟨w.heap.size, 3, none⟩) (by show w.heap.size + 1 ≠ w.heap.size; omega) _).setOther (a := ⟨w.heap.size, 5, none⟩) (by show w.heap.size + 1 ≠ w.heap.size; omega) _).setOther (a := ⟨w.heap.size, 7, none⟩) (by show w.heap.size + 1 ≠ w.heap.size; omega) _).setOther (a := ⟨w.heap.size, 4, none⟩) (by show w.heap.size + 1 ≠ w.heap.size; omega) _
 have B2 : Below w.heap.size w w2 := by
  rw [hw2]
  exact (((HB1.out.setCell (p := ⟨w.heap.size, 3, none⟩) (Nat.le_refl _) _).setCell (p := ⟨w.heap.size, 5, none⟩) (Nat.le_refl _) _).setCell (p := ⟨w.heap.size, 7, none⟩) (Nat.le_refl _) _).setCell (p := ⟨w.heap.size, 4, none⟩) (Nat.le_refl _) _
 have z2 : w.heap.size + 1 < w2.heap.size := by rw [hw2]; simpa using z1
 have HR2 : Hid (zdw w2 ar br rs.length y) := by
  show zdw w2 ar br rs.length y
  rcases HR.out with h | ⟨h, h'⟩
  · exact .inl h
  · exact .inr ⟨h, Rw.below h' B2⟩
 have hbw : bw < w.heap.size := HW.out.lt
 have HC0 : Hid (Cyc ⟨ws, S', 0⟩ S' E' S T S' 0 [] L) := HST.out.flip h1 h2 h3 h4
 clear hw2 HRA HRX HB1 KA fa z1 HST
 go_loopw [3] (fun u3 wr => ∃ k : Nat, k <= rs.length /\ u3 = .int .i64 k /\ wr.rowIs w.heap.size 30 10 (fun i => (#[.slice (some ⟨bw, 0, none⟩) ws.length cw, .int .i64 sm, .int .i64 (1 - toh), .int .i64 ((zh S' ⟨ws, S', 0⟩ y k).1.T : Int), .bool true, .int .i64 (S' : Int), .int .i64 (T : Int), .int .i64 ((zh S' ⟨ws, S', 0⟩ y k).1.C : Int), .int .i64 sr, .slice ar rs.length cr] : Array Value).getD i (.bool false)) /\ RwW wr bw (zh S' ⟨ws, S', 0⟩ y k).1.ws /\ zdw wr ar br rs.length (zh S' ⟨ws, S', 0⟩ y k).2 /\ Kp [bw, br, w.heap.size] w2 wr) (fun u3 _ => rs.length - (intOf u3).toNat)
 case atStart => exact ⟨0, Nat.zero_le _, rfl, HRA2.out, HW2.out, HR2.out, Kp.refl _ _⟩
 case round =>
  obtain ⟨k, hk, rfl, hRA, hWr, hRr, hKr⟩ := hrel
  obtain ⟨M, hCk, _, hsame, hlen⟩ := HC0.out.roots HY.out k hk
  by_cases hlt : k < rs.length
  · have hlt' : (k : Int) < (rs.length : Int) := by omega
    obtain ⟨har, hRk⟩ : ar = some ⟨br, 0, none⟩ /\ RwR wr br rs.length (zh S' ⟨ws, S', 0⟩ y k).2 := by
     rcases hRr with h | h
     · omega
     · exact h
    subst har
    have hne : bw ≠ br := hne0 (by omega)
    have hCC := zin S' ⟨ws, S', 0⟩ y k
    have hsk := hsame k (Nat.le_refl _)
    have hm0 : isR ((zh S' ⟨ws, S', 0⟩ y k).2 (2 * k)) = true -> 0 <= (zh S' ⟨ws, S', 0⟩ y k).2 (2 * k + 1) /\ (((zh S' ⟨ws, S', 0⟩ y k).2 (2 * k + 1)).toNat ∈ ([] : List Nat) ++ M \/ ((zh S' ⟨ws, S', 0⟩ y k).2 (2 * k + 1)).toNat ∈ L) := fun g => by
     rw [hsk.1] at g
     rw [hsk.2]
     have := HY.out k hlt g
     exact ⟨this.1, .inr this.2⟩
    obtain ⟨wsk, Tk, Ck, yk, hek⟩ : ∃ wsk Tk Ck yk, zh S' ⟨ws, S', 0⟩ y k = (⟨wsk, Tk, Ck⟩, yk) := ⟨_, _, _, _, rfl⟩
    rw [hek] at hRA hWr hRk hCk hlen hCC hm0
    dsimp only at hRA hWr hRk hCk hlen hCC hm0
    obtain ⟨t, ht⟩ : ∃ t, t = yk (2 * k) := ⟨_, rfl⟩
    obtain ⟨m, hm⟩ : ∃ m, m = yk (2 * k + 1) := ⟨_, rfl⟩
    rw [<- ht, <- hm] at hm0
    obtain ⟨a2, ha2⟩ : ∃ a, a = zar S' ⟨wsk, Tk, Ck⟩ t m := ⟨_, rfl⟩
    obtain ⟨m2, hm2⟩ : ∃ m2, m2 = zbf S' ⟨wsk, Tk, Ck⟩ t m := ⟨_, rfl⟩
    have HEK : Hid (zh S' ⟨ws, S', 0⟩ y (k + 1) = (a2, zey yk k t m2)) := by
     show zh S' ⟨ws, S', 0⟩ y (k + 1) = (a2, zey yk k t m2)
     simp only [zh, hek, <- ht, <- hm, <- ha2, <- hm2]
    have hl2 : a2.ws.length = wsk.length := by rw [ha2]; exact (hCk.fwd_same hm0).1
    have HL2 : Hid (a2.ws.length = ws.length) := hl2.trans hlen
    have HTE := hCk.TE
    have HEE := hCk.hE
    have hsm := hCk.small
    dsimp only at HTE HEE hsm
    have HFW : Hid (∀ W, RwW W bw wsk -> Calls Tryz.prog 147 #[.agg #[.slice (some ⟨bw, 0, none⟩) ws.length cw, .int .i64 sm, .int .i64 (1 - toh), .int .i64 (Tk : Int), .bool true, .int .i64 (S' : Int), .int .i64 (T : Int), .int .i64 (Ck : Int), .int .i64 sr, .slice (some ⟨br, 0, none⟩) rs.length cr], .agg #[.int .i64 t, .int .i64 m]] W fun e w' => e = .returned (.tuple #[.agg #[.slice (some ⟨bw, 0, none⟩) ws.length cw, .int .i64 sm, .int .i64 (1 - toh), .int .i64 (a2.T : Int), .bool true, .int .i64 (S' : Int), .int .i64 (T : Int), .int .i64 (a2.C : Int), .int .i64 sr, .slice (some ⟨br, 0, none⟩) rs.length cr], .agg #[.int .i64 t, .int .i64 m2]]) /\ RwW w' bw a2.ws /\ Kp [bw] W w') := fun W hW => by
     rw [ha2, hm2, <- hlen]
     exact zl8 bw cw wsk sm (1 - toh) Tk true (S' : Int) (T : Int) Ck sr (some ⟨br, 0, none⟩) cr rs t m W hW hCk HH.out hm0 (by omega)
    have lbr := hRk.lt
    have lba := hRA.lt
    have x0 : wr.cell? ⟨br, k * 2, none⟩ = some (.int .i64 t) := by rw [ht, Nat.mul_comm]; exact hRk.cell (i := 2 * k) (by omega)
    have x1 : wr.cell? ⟨br, k * 2 + 1, none⟩ = some (.int .i64 m) := by rw [hm, Nat.mul_comm]; exact hRk.cell (i := 2 * k + 1) (by omega)
    have KA := zz hRA rfl
    have KP : ∀ V, Kp [bw] wr V -> (Kp [bw] wr V /\ (∀ i, V.cell? ⟨w.heap.size, i, none⟩ = (#[.slice (some ⟨bw, 0, none⟩) ws.length cw, .int .i64 sm, .int .i64 (1 - toh), .int .i64 (Tk : Int), .bool true, .int .i64 (S' : Int), .int .i64 (T : Int), .int .i64 (Ck : Int), .int .i64 sr, .slice (some ⟨br, 0, none⟩) rs.length cr] : Array Value)[i]?) /\ V.cell? ⟨br, k * 2, none⟩ = some (.int .i64 t) /\ V.cell? ⟨br, k * 2 + 1, none⟩ = some (.int .i64 m)) := fun V hV => ⟨hV, Kp.has KA hV lba (by simp; omega), by rw [hV.cell (p := ⟨br, k * 2, none⟩) lbr (by simp; omega)]; exact x0, by rw [hV.cell (p := ⟨br, k * 2 + 1, none⟩) lbr (by simp; omega)]; exact x1⟩
    have hWl : RwW wr bw wsk := hWr
    have HRA3 : Hid (wr.rowIs w.heap.size 30 10 (fun i => (#[.slice (some ⟨bw, 0, none⟩) ws.length cw, .int .i64 sm, .int .i64 (1 - toh), .int .i64 (Tk : Int), .bool true, .int .i64 (S' : Int), .int .i64 (T : Int), .int .i64 (Ck : Int), .int .i64 sr, .slice (some ⟨br, 0, none⟩) rs.length cr] : Array Value).getD i (.bool false))) := hRA
    have HRK : Hid (RwR wr br rs.length yk) := hRk
    have HKR : Hid (Kp [bw, br, w.heap.size] w2 wr) := hKr
    have hlb : bw < wr.heap.size := hWr.lt
    clear hRA hWr hRk hRr hKr hm0 hCC hsame hsk hCk hek ha2 hm2 ht hm HC0 HRA2 HR2 hlen hl2
    go_upto_region 10 with fail
    go_cut [4, 5] from 30 to 39 (fun s4 s5 wc => ∃ x4 x5 : Nat, s4 = .pointer (some ⟨x4, 0, none⟩) /\ s5 = .pointer (some ⟨x5, 0, none⟩) /\ wc.rowIs x4 30 10 (fun i => (#[.slice (some ⟨bw, 0, none⟩) ws.length cw, .int .i64 sm, .int .i64 (1 - toh), .int .i64 (a2.T : Int), .bool true, .int .i64 (S' : Int), .int .i64 (T : Int), .int .i64 (a2.C : Int), .int .i64 sr, .slice (some ⟨br, 0, none⟩) rs.length cr] : Array Value).getD i (.bool false)) /\ wc.rowIs x5 50 2 (fun i => (#[.int .i64 t, .int .i64 m2] : Array Value).getD i (.bool false)) /\ wr.heap.size <= x4 /\ wr.heap.size <= x5 /\ x4 ≠ x5 /\ RwW wc bw a2.ws /\ Kp [bw] wr wc)
    case first =>
     clear x0 x1 KA
     refine wp_region_held_drew (S := fun V => Kp [bw] wr V /\ (∀ i, V.cell? ⟨w.heap.size, i, none⟩ = (#[.slice (some ⟨bw, 0, none⟩) ws.length cw, .int .i64 sm, .int .i64 (1 - toh), .int .i64 (Tk : Int), .bool true, .int .i64 (S' : Int), .int .i64 (T : Int), .int .i64 (Ck : Int), .int .i64 sr, .slice (some ⟨br, 0, none⟩) rs.length cr] : Array Value)[i]?) /\ V.cell? ⟨br, k * 2, none⟩ = some (.int .i64 t) /\ V.cell? ⟨br, k * 2 + 1, none⟩ = some (.int .i64 m)) (by kernel_rfl) (KP _ (Kp.refl _ _).drew) (fun hHeld => ?_)
     obtain ⟨wd, hwd⟩ : ∃ V, V = wr.drew := ⟨_, rfl⟩
     rw [<- hwd] at hHeld ⊢
     have hWd : RwW wd bw wsk := by rw [hwd]; exact Rw.drew hWl
     clear hwd
     refine wpAnyH_take (i := 0) (oi := { dst := some 31, op := _, type := _, pos := _, after := _, guard := _ }) (v := .agg #[.slice (some ⟨bw, 0, none⟩) ws.length cw, .int .i64 sm, .int .i64 (1 - toh), .int .i64 (Tk : Int), .bool true, .int .i64 (S' : Int), .int .i64 (T : Int), .int .i64 (Ck : Int), .int .i64 sr, .slice (some ⟨br, 0, none⟩) rs.length cr]) rfl (by kernel_rfl) (by kernel_rfl) (by kernel_rfl) (fun _ _ _ h => h) (Or.inl ⟨by kernel_rfl, ?_⟩) hHeld ?_
     · intro w hSw
       (try dsimp only at hSw)
       go_simp
     try simp only [Act.put, zvy, zvz, zv0]
     refine wpAnyH_take (i := 1) (oi := { dst := some 32, op := _, type := _, pos := _, after := _, guard := _ }) (v := .pointer (some ⟨w.heap.size, 9, none⟩)) rfl (by kernel_rfl) (by kernel_rfl) (by kernel_rfl) (fun _ _ _ h => h) (Or.inl ⟨by kernel_rfl, ?_⟩) hHeld ?_
     · intro w hSw
       (try dsimp only at hSw)
       go_simp
     try simp only [Act.put, zvy, zvz, zv0]
     refine wpAnyH_take (i := 2) (oi := { dst := some 33, op := _, type := _, pos := _, after := _, guard := _ }) (v := .slice (some ⟨br, 0, none⟩) rs.length cr) rfl (by kernel_rfl) (by kernel_rfl) (by kernel_rfl) (fun _ _ _ h => h) (Or.inl ⟨by kernel_rfl, ?_⟩) hHeld ?_
     · intro w hSw
       (try dsimp only at hSw)
       go_simp
     try simp only [Act.put, zvy, zvz, zv0]
     refine wpAnyH_take (i := 3) (oi := { dst := some 34, op := _, type := _, pos := _, after := _, guard := _ }) (v := .int .i64 k) rfl (by kernel_rfl) (by kernel_rfl) (by kernel_rfl) (fun _ _ _ h => h) (Or.inl ⟨by kernel_rfl, ?_⟩) hHeld ?_
     · intro w hSw
       (try dsimp only at hSw)
       go_simp
     try simp only [Act.put, zvy, zvz, zv0]
     refine wpAnyH_take (i := 4) (oi := { dst := some 35, op := _, type := _, pos := _, after := _, guard := _ }) (v := .pointer (some ⟨br, k * 2, none⟩)) rfl (by kernel_rfl) (by kernel_rfl) (by kernel_rfl) (fun _ _ _ h => h) (Or.inl ⟨by kernel_rfl, ?_⟩) hHeld ?_
     · intro w hSw
       (try dsimp only at hSw)
       go_simp
     try simp only [Act.put, zvy, zvz, zv0]
     refine wpAnyH_take (i := 5) (oi := { dst := some 36, op := _, type := _, pos := _, after := _, guard := _ }) (v := .agg #[.int .i64 t, .int .i64 m]) rfl (by kernel_rfl) (by kernel_rfl) (by kernel_rfl) (fun _ _ _ h => h) (Or.inl ⟨by kernel_rfl, ?_⟩) hHeld ?_
     · intro w hSw
       (try dsimp only at hSw)
       go_simp
     try simp only [Act.put, zvy, zvz, zv0]
     refine wpAnyH_ready (rs := [6, 10, 11]) (by kernel_rfl) (by simp) ?_
     refine AllReadyH.cons (o := { dst := some 37, op := _, type := _, pos := _, after := _, guard := _ }) rfl (fun K hK => ?_) (AllReadyH.cons (o := { dst := some 4, op := _, type := _, pos := _, after := _, guard := _ }) rfl (fun K hK => ?_) (AllReadyH.cons (o := { dst := some 5, op := _, type := _, pos := _, after := _, guard := _ }) rfl (fun K hK => ?_) AllReadyH.nil))
     · go_simp
       go_at_call 147
       refine (HFW.out _ hWd).mono ?_
       rintro e wf ⟨rfl, hWf, hKf⟩
       have hKn := hHeld.1.trans hKf
       have hsz := hKf.size
       clear hHeld hKf
       refine hK.out _ _ (KP _ hKn) (fun hHeld => ?_)
       clear hK K hKn
       try simp only [Act.put, zvy, zvz, zv0]
       refine wpAnyH_take (i := 7) (oi := { dst := some 30, op := _, type := _, pos := _, after := _, guard := _ }) (v := .tuple #[.agg #[.slice (some ⟨bw, 0, none⟩) ws.length cw, .int .i64 sm, .int .i64 (1 - toh), .int .i64 (a2.T : Int), .bool true, .int .i64 (S' : Int), .int .i64 (T : Int), .int .i64 (a2.C : Int), .int .i64 sr, .slice (some ⟨br, 0, none⟩) rs.length cr], .agg #[.int .i64 t, .int .i64 m2]]) rfl (by kernel_rfl) (by kernel_rfl) (by kernel_rfl) (fun _ _ _ h => h) (Or.inl ⟨by kernel_rfl, ?_⟩) hHeld ?_
       · intro w hSw
         (try dsimp only at hSw)
         go_simp
       try simp only [Act.put, zvy, zvz, zv0]
       refine wpAnyH_take (i := 8) (oi := { dst := some 38, op := _, type := _, pos := _, after := _, guard := _ }) (v := .agg #[.slice (some ⟨bw, 0, none⟩) ws.length cw, .int .i64 sm, .int .i64 (1 - toh), .int .i64 (a2.T : Int), .bool true, .int .i64 (S' : Int), .int .i64 (T : Int), .int .i64 (a2.C : Int), .int .i64 sr, .slice (some ⟨br, 0, none⟩) rs.length cr]) rfl (by kernel_rfl) (by kernel_rfl) (by kernel_rfl) (fun _ _ _ h => h) (Or.inl ⟨by kernel_rfl, ?_⟩) hHeld ?_
       · intro w hSw
         (try dsimp only at hSw)
         go_simp
       try simp only [Act.put, zvy, zvz, zv0]
       refine wpAnyH_take (i := 9) (oi := { dst := some 39, op := _, type := _, pos := _, after := _, guard := _ }) (v := .agg #[.int .i64 t, .int .i64 m2]) rfl (by kernel_rfl) (by kernel_rfl) (by kernel_rfl) (fun _ _ _ h => h) (Or.inl ⟨by kernel_rfl, ?_⟩) hHeld ?_
       · intro w hSw
         (try dsimp only at hSw)
         go_simp
       try simp only [Act.put, zvy, zvz, zv0]
       refine wpAnyH_ready (rs := [10, 11]) (by kernel_rfl) (by simp) ?_
       refine AllReadyH.cons (o := { dst := some 4, op := _, type := _, pos := _, after := _, guard := _ }) rfl (fun K hK => ?_) (AllReadyH.cons (o := { dst := some 5, op := _, type := _, pos := _, after := _, guard := _ }) rfl (fun K hK => ?_) AllReadyH.nil)
       · go_simp
         have hHa := hHeld.1
         clear hHeld
         refine hK.out _ _ (KP _ (hHa.alloc _)) (fun hHeld => ?_)
         clear hK K
         try simp only [Act.put, zvy, zvz, zv0]
         obtain ⟨wa, hwa⟩ : ∃ V, V = wf.alloc (.cells #[.slice none 0 0, .int .i64 0, .int .i64 0, .int .i64 0, .bool false, .int .i64 0, .int .i64 0, .int .i64 0, .int .i64 0, .slice none 0 0] 30) := ⟨_, rfl⟩
         rw [<- hwa] at hHeld ⊢
         have ba : Below wf.heap.size wf wa := by rw [hwa]; exact (Below.refl _ _).alloc (Nat.le_refl _) _
         have r4 : wa.rowIs wf.heap.size 30 10 (fun i => (#[.slice none 0 0, .int .i64 0, .int .i64 0, .int .i64 0, .bool false, .int .i64 0, .int .i64 0, .int .i64 0, .int .i64 0, .slice none 0 0] : Array Value).getD i (.bool false)) := by rw [hwa]; exact zdg rfl
         have l4 : wr.heap.size <= wf.heap.size := hHa.size
         have hWa := Rw.below hWf ba
         clear hwa hHa ba
         refine wpAnyH_ready (rs := [11]) (by kernel_rfl) (by simp) ?_
         refine AllReadyH.cons (o := { dst := some 5, op := _, type := _, pos := _, after := _, guard := _ }) rfl (fun K hK => ?_) AllReadyH.nil
         go_simp
         have hHa := hHeld.1
         clear hHeld
         refine hK.out _ _ (KP _ (hHa.alloc _)) (fun hHeld => ?_)
         clear hK K
         try simp only [Act.put, zvy, zvz, zv0]
         obtain ⟨wb, hwa⟩ : ∃ V, V = wa.alloc (.cells #[.int .i64 0, .int .i64 0] 50) := ⟨_, rfl⟩
         rw [<- hwa] at hHeld ⊢
         have ba : Below wa.heap.size wa wb := by rw [hwa]; exact (Below.refl _ _).alloc (Nat.le_refl _) _
         have r5 : wb.rowIs wa.heap.size 50 2 (fun i => (#[.int .i64 0, .int .i64 0] : Array Value).getD i (.bool false)) := by rw [hwa]; exact zdg rfl
         have l5 : wr.heap.size <= wa.heap.size := hHa.size
         have n45 : wf.heap.size ≠ wa.heap.size := by have := World.rowIs.lt r4; omega
         have r4 := World.rowIs.of_block r4 (ba.block _ (World.rowIs.lt r4))
         have hWb := Rw.below hWa ba
         clear hwa hHa ba
         obtain ⟨d0, d1, d2, d3, d4, d5, d6, d7, d8, d9⟩ := zcu r4 rfl rfl rfl rfl rfl rfl rfl rfl rfl rfl
         simp at d0 d1 d2 d3 d4 d5 d6 d7 d8 d9
         have ez := World.rowIs.frozen r4
         refine wpAnyH_ready (rs := [12]) (by kernel_rfl) (by simp) ?_
         refine AllReadyH.cons (o := { dst := none, op := _, type := _, pos := _, after := _, guard := _ }) rfl (fun K hK => ?_) AllReadyH.nil
         go_simp
         have hHs := hHeld.1
         clear hHeld
         refine hK.out _ _ (KP _ (zfd hHs l4)) (fun hHeld => ?_)
         clear hK K d0 d1 d2 d3 d4 d5 d6 d7 d8 d9 ez
         try simp only [Act.put, zvy, zvz, zv0]
         obtain ⟨ws4, hws4⟩ : ∃ V, V = ((((((((((wb.setCell ⟨wf.heap.size, 0, none⟩ (.slice (some ⟨bw, 0, none⟩) ws.length cw)).setCell ⟨wf.heap.size, 1, none⟩ (.int .i64 sm)).setCell ⟨wf.heap.size, 2, none⟩ (.int .i64 (1 - toh))).setCell ⟨wf.heap.size, 3, none⟩ (.int .i64 (a2.T : Int))).setCell ⟨wf.heap.size, 4, none⟩ (.bool true)).setCell ⟨wf.heap.size, 5, none⟩ (.int .i64 (S' : Int))).setCell ⟨wf.heap.size, 6, none⟩ (.int .i64 (T : Int))).setCell ⟨wf.heap.size, 7, none⟩ (.int .i64 (a2.C : Int))).setCell ⟨wf.heap.size, 8, none⟩ (.int .i64 sr)).setCell ⟨wf.heap.size, 9, none⟩ (.slice (some ⟨br, 0, none⟩) rs.length cr)) := ⟨_, rfl⟩
         have r4' : ws4.rowIs wf.heap.size 30 10 (fun i => (#[.slice (some ⟨bw, 0, none⟩) ws.length cw, .int .i64 sm, .int .i64 (1 - toh), .int .i64 (a2.T : Int), .bool true, .int .i64 (S' : Int), .int .i64 (T : Int), .int .i64 (a2.C : Int), .int .i64 sr, .slice (some ⟨br, 0, none⟩) rs.length cr] : Array Value).getD i (.bool false)) := by rw [hws4]; exact ze5 r4 rfl rfl rfl rfl rfl rfl rfl rfl rfl rfl
         have r5' : ws4.rowIs wa.heap.size 50 2 (fun i => (#[.int .i64 0, .int .i64 0] : Array Value).getD i (.bool false)) := by rw [hws4]; exact World.rowIs.of_block r5 (zam n45.symm)
         have hW4 : RwW ws4 bw a2.ws := by rw [hws4]; exact Rw.of_block hWb (zam (by omega))
         rw [<- hws4] at hHeld ⊢
         clear hws4 hHs
         have y0 := r5'.cell (i := 0) (by omega)
         have y1 := r5'.cell (i := 1) (by omega)
         simp at y0 y1
         have ey := World.rowIs.frozen r5'
         refine wpAnyH_ready (rs := [13]) (by kernel_rfl) (by simp) ?_
         refine AllReadyH.cons (o := { dst := none, op := _, type := _, pos := _, after := _, guard := _ }) rfl (fun K hK => ?_) AllReadyH.nil
         go_simp
         have hHs := hHeld.1
         clear hHeld
         refine hK.out _ _ (KP _ ((hHs.setCell (p := ⟨wa.heap.size, 0, none⟩) (.inr l5) _).setCell (p := ⟨wa.heap.size, 1, none⟩) (.inr l5) _)) (fun hHeld => ?_)
         clear hK K
         try simp only [Act.put, zvy, zvz, zv0]
         refine wpAnyH_done (by kernel_rfl) ?_ _
         go_wp2_with fail
         go_meet
         refine ⟨wf.heap.size, wa.heap.size, rfl, rfl, (r4'.setOther (a := ⟨wa.heap.size, 0, none⟩) n45 _).setOther (a := ⟨wa.heap.size, 1, none⟩) n45 _, zfr r5' rfl rfl, l4, l5, n45, Rw.other (Rw.other hW4 (p := ⟨wa.heap.size, 0, none⟩) (by show bw ≠ wa.heap.size; omega) _) (p := ⟨wa.heap.size, 1, none⟩) (by show bw ≠ wa.heap.size; omega) _, hHeld.1⟩
       · go_simp
         have hHa := hHeld.1
         clear hHeld
         refine hK.out _ _ (KP _ (hHa.alloc _)) (fun hHeld => ?_)
         clear hK K
         try simp only [Act.put, zvy, zvz, zv0]
         obtain ⟨wb, hwa⟩ : ∃ V, V = wf.alloc (.cells #[.int .i64 0, .int .i64 0] 50) := ⟨_, rfl⟩
         rw [<- hwa] at hHeld ⊢
         have ba : Below wf.heap.size wf wb := by rw [hwa]; exact (Below.refl _ _).alloc (Nat.le_refl _) _
         have r5 : wb.rowIs wf.heap.size 50 2 (fun i => (#[.int .i64 0, .int .i64 0] : Array Value).getD i (.bool false)) := by rw [hwa]; exact zdg rfl
         have l5 : wr.heap.size <= wf.heap.size := hHa.size
         have hWb := Rw.below hWf ba
         clear hwa hHa ba
         refine wpAnyH_ready (rs := [10]) (by kernel_rfl) (by simp) ?_
         refine AllReadyH.cons (o := { dst := some 4, op := _, type := _, pos := _, after := _, guard := _ }) rfl (fun K hK => ?_) AllReadyH.nil
         go_simp
         have hHa := hHeld.1
         clear hHeld
         refine hK.out _ _ (KP _ (hHa.alloc _)) (fun hHeld => ?_)
         clear hK K
         try simp only [Act.put, zvy, zvz, zv0]
         obtain ⟨wa, hwa⟩ : ∃ V, V = wb.alloc (.cells #[.slice none 0 0, .int .i64 0, .int .i64 0, .int .i64 0, .bool false, .int .i64 0, .int .i64 0, .int .i64 0, .int .i64 0, .slice none 0 0] 30) := ⟨_, rfl⟩
         rw [<- hwa] at hHeld ⊢
         have ba : Below wb.heap.size wb wa := by rw [hwa]; exact (Below.refl _ _).alloc (Nat.le_refl _) _
         have r4 : wa.rowIs wb.heap.size 30 10 (fun i => (#[.slice none 0 0, .int .i64 0, .int .i64 0, .int .i64 0, .bool false, .int .i64 0, .int .i64 0, .int .i64 0, .int .i64 0, .slice none 0 0] : Array Value).getD i (.bool false)) := by rw [hwa]; exact zdg rfl
         have l4 : wr.heap.size <= wb.heap.size := hHa.size
         have n45 : wb.heap.size ≠ wf.heap.size := by have := World.rowIs.lt r5; omega
         have r5 := World.rowIs.of_block r5 (ba.block _ (World.rowIs.lt r5))
         have hWa := Rw.below hWb ba
         clear hwa hHa ba
         obtain ⟨d0, d1, d2, d3, d4, d5, d6, d7, d8, d9⟩ := zcu r4 rfl rfl rfl rfl rfl rfl rfl rfl rfl rfl
         simp at d0 d1 d2 d3 d4 d5 d6 d7 d8 d9
         have ez := World.rowIs.frozen r4
         refine wpAnyH_ready (rs := [12]) (by kernel_rfl) (by simp) ?_
         refine AllReadyH.cons (o := { dst := none, op := _, type := _, pos := _, after := _, guard := _ }) rfl (fun K hK => ?_) AllReadyH.nil
         go_simp
         have hHs := hHeld.1
         clear hHeld
         refine hK.out _ _ (KP _ (zfd hHs l4)) (fun hHeld => ?_)
         clear hK K d0 d1 d2 d3 d4 d5 d6 d7 d8 d9 ez
         try simp only [Act.put, zvy, zvz, zv0]
         obtain ⟨ws4, hws4⟩ : ∃ V, V = ((((((((((wa.setCell ⟨wb.heap.size, 0, none⟩ (.slice (some ⟨bw, 0, none⟩) ws.length cw)).setCell ⟨wb.heap.size, 1, none⟩ (.int .i64 sm)).setCell ⟨wb.heap.size, 2, none⟩ (.int .i64 (1 - toh))).setCell ⟨wb.heap.size, 3, none⟩ (.int .i64 (a2.T : Int))).setCell ⟨wb.heap.size, 4, none⟩ (.bool true)).setCell ⟨wb.heap.size, 5, none⟩ (.int .i64 (S' : Int))).setCell ⟨wb.heap.size, 6, none⟩ (.int .i64 (T : Int))).setCell ⟨wb.heap.size, 7, none⟩ (.int .i64 (a2.C : Int))).setCell ⟨wb.heap.size, 8, none⟩ (.int .i64 sr)).setCell ⟨wb.heap.size, 9, none⟩ (.slice (some ⟨br, 0, none⟩) rs.length cr)) := ⟨_, rfl⟩
         have r4' : ws4.rowIs wb.heap.size 30 10 (fun i => (#[.slice (some ⟨bw, 0, none⟩) ws.length cw, .int .i64 sm, .int .i64 (1 - toh), .int .i64 (a2.T : Int), .bool true, .int .i64 (S' : Int), .int .i64 (T : Int), .int .i64 (a2.C : Int), .int .i64 sr, .slice (some ⟨br, 0, none⟩) rs.length cr] : Array Value).getD i (.bool false)) := by rw [hws4]; exact ze5 r4 rfl rfl rfl rfl rfl rfl rfl rfl rfl rfl
         have r5' : ws4.rowIs wf.heap.size 50 2 (fun i => (#[.int .i64 0, .int .i64 0] : Array Value).getD i (.bool false)) := by rw [hws4]; exact World.rowIs.of_block r5 (zam n45.symm)
         have hW4 : RwW ws4 bw a2.ws := by rw [hws4]; exact Rw.of_block hWa (zam (by omega))
         rw [<- hws4] at hHeld ⊢
         clear hws4 hHs
         have y0 := r5'.cell (i := 0) (by omega)
         have y1 := r5'.cell (i := 1) (by omega)
         simp at y0 y1
         have ey := World.rowIs.frozen r5'
         refine wpAnyH_ready (rs := [13]) (by kernel_rfl) (by simp) ?_
         refine AllReadyH.cons (o := { dst := none, op := _, type := _, pos := _, after := _, guard := _ }) rfl (fun K hK => ?_) AllReadyH.nil
         go_simp
         have hHs := hHeld.1
         clear hHeld
         refine hK.out _ _ (KP _ ((hHs.setCell (p := ⟨wf.heap.size, 0, none⟩) (.inr l5) _).setCell (p := ⟨wf.heap.size, 1, none⟩) (.inr l5) _)) (fun hHeld => ?_)
         clear hK K
         try simp only [Act.put, zvy, zvz, zv0]
         refine wpAnyH_done (by kernel_rfl) ?_ _
         go_wp2_with fail
         go_meet
         refine ⟨wb.heap.size, wf.heap.size, rfl, rfl, (r4'.setOther (a := ⟨wf.heap.size, 0, none⟩) n45 _).setOther (a := ⟨wf.heap.size, 1, none⟩) n45 _, zfr r5' rfl rfl, l4, l5, n45, Rw.other (Rw.other hW4 (p := ⟨wf.heap.size, 0, none⟩) (by show bw ≠ wf.heap.size; omega) _) (p := ⟨wf.heap.size, 1, none⟩) (by show bw ≠ wf.heap.size; omega) _, hHeld.1⟩
     · go_simp
       have hHa := hHeld.1
       clear hHeld
       refine hK.out _ _ (KP _ (hHa.alloc _)) (fun hHeld => ?_)
       clear hK K
       try simp only [Act.put, zvy, zvz, zv0]
       obtain ⟨wa, hwa⟩ : ∃ V, V = wd.alloc (.cells #[.slice none 0 0, .int .i64 0, .int .i64 0, .int .i64 0, .bool false, .int .i64 0, .int .i64 0, .int .i64 0, .int .i64 0, .slice none 0 0] 30) := ⟨_, rfl⟩
       rw [<- hwa] at hHeld ⊢
       have ba : Below wd.heap.size wd wa := by rw [hwa]; exact (Below.refl _ _).alloc (Nat.le_refl _) _
       have r4 : wa.rowIs wd.heap.size 30 10 (fun i => (#[.slice none 0 0, .int .i64 0, .int .i64 0, .int .i64 0, .bool false, .int .i64 0, .int .i64 0, .int .i64 0, .int .i64 0, .slice none 0 0] : Array Value).getD i (.bool false)) := by rw [hwa]; exact zdg rfl
       have l4 : wr.heap.size <= wd.heap.size := hHa.size
       have hWa := Rw.below hWd ba
       clear hwa hHa ba
       refine wpAnyH_ready (rs := [6, 11]) (by kernel_rfl) (by simp) ?_
       refine AllReadyH.cons (o := { dst := some 37, op := _, type := _, pos := _, after := _, guard := _ }) rfl (fun K hK => ?_) (AllReadyH.cons (o := { dst := some 5, op := _, type := _, pos := _, after := _, guard := _ }) rfl (fun K hK => ?_) AllReadyH.nil)
       · go_simp
         go_at_call 147
         refine (HFW.out _ hWa).mono ?_
         rintro e wf ⟨rfl, hWf, hKf⟩
         have hKn := hHeld.1.trans hKf
         have r4 := World.rowIs.of_block r4 (hKf.block _ (World.rowIs.lt r4) (by simp; omega))
         have hsz := hKf.size
         clear hHeld hKf
         refine hK.out _ _ (KP _ hKn) (fun hHeld => ?_)
         clear hK K hKn
         try simp only [Act.put, zvy, zvz, zv0]
         refine wpAnyH_take (i := 7) (oi := { dst := some 30, op := _, type := _, pos := _, after := _, guard := _ }) (v := .tuple #[.agg #[.slice (some ⟨bw, 0, none⟩) ws.length cw, .int .i64 sm, .int .i64 (1 - toh), .int .i64 (a2.T : Int), .bool true, .int .i64 (S' : Int), .int .i64 (T : Int), .int .i64 (a2.C : Int), .int .i64 sr, .slice (some ⟨br, 0, none⟩) rs.length cr], .agg #[.int .i64 t, .int .i64 m2]]) rfl (by kernel_rfl) (by kernel_rfl) (by kernel_rfl) (fun _ _ _ h => h) (Or.inl ⟨by kernel_rfl, ?_⟩) hHeld ?_
         · intro w hSw
           (try dsimp only at hSw)
           go_simp
         try simp only [Act.put, zvy, zvz, zv0]
         refine wpAnyH_take (i := 8) (oi := { dst := some 38, op := _, type := _, pos := _, after := _, guard := _ }) (v := .agg #[.slice (some ⟨bw, 0, none⟩) ws.length cw, .int .i64 sm, .int .i64 (1 - toh), .int .i64 (a2.T : Int), .bool true, .int .i64 (S' : Int), .int .i64 (T : Int), .int .i64 (a2.C : Int), .int .i64 sr, .slice (some ⟨br, 0, none⟩) rs.length cr]) rfl (by kernel_rfl) (by kernel_rfl) (by kernel_rfl) (fun _ _ _ h => h) (Or.inl ⟨by kernel_rfl, ?_⟩) hHeld ?_
         · intro w hSw
           (try dsimp only at hSw)
           go_simp
         try simp only [Act.put, zvy, zvz, zv0]
         refine wpAnyH_take (i := 9) (oi := { dst := some 39, op := _, type := _, pos := _, after := _, guard := _ }) (v := .agg #[.int .i64 t, .int .i64 m2]) rfl (by kernel_rfl) (by kernel_rfl) (by kernel_rfl) (fun _ _ _ h => h) (Or.inl ⟨by kernel_rfl, ?_⟩) hHeld ?_
         · intro w hSw
           (try dsimp only at hSw)
           go_simp
         try simp only [Act.put, zvy, zvz, zv0]
         refine wpAnyH_ready (rs := [11]) (by kernel_rfl) (by simp) ?_
         refine AllReadyH.cons (o := { dst := some 5, op := _, type := _, pos := _, after := _, guard := _ }) rfl (fun K hK => ?_) AllReadyH.nil
         go_simp
         have hHa := hHeld.1
         clear hHeld
         refine hK.out _ _ (KP _ (hHa.alloc _)) (fun hHeld => ?_)
         clear hK K
         try simp only [Act.put, zvy, zvz, zv0]
         obtain ⟨wb, hwa⟩ : ∃ V, V = wf.alloc (.cells #[.int .i64 0, .int .i64 0] 50) := ⟨_, rfl⟩
         rw [<- hwa] at hHeld ⊢
         have ba : Below wf.heap.size wf wb := by rw [hwa]; exact (Below.refl _ _).alloc (Nat.le_refl _) _
         have r5 : wb.rowIs wf.heap.size 50 2 (fun i => (#[.int .i64 0, .int .i64 0] : Array Value).getD i (.bool false)) := by rw [hwa]; exact zdg rfl
         have l5 : wr.heap.size <= wf.heap.size := hHa.size
         have n45 : wd.heap.size ≠ wf.heap.size := by have := World.rowIs.lt r4; omega
         have r4 := World.rowIs.of_block r4 (ba.block _ (World.rowIs.lt r4))
         have hWb := Rw.below hWf ba
         clear hwa hHa ba
         obtain ⟨d0, d1, d2, d3, d4, d5, d6, d7, d8, d9⟩ := zcu r4 rfl rfl rfl rfl rfl rfl rfl rfl rfl rfl
         simp at d0 d1 d2 d3 d4 d5 d6 d7 d8 d9
         have ez := World.rowIs.frozen r4
         refine wpAnyH_ready (rs := [12]) (by kernel_rfl) (by simp) ?_
         refine AllReadyH.cons (o := { dst := none, op := _, type := _, pos := _, after := _, guard := _ }) rfl (fun K hK => ?_) AllReadyH.nil
         go_simp
         have hHs := hHeld.1
         clear hHeld
         refine hK.out _ _ (KP _ (zfd hHs l4)) (fun hHeld => ?_)
         clear hK K d0 d1 d2 d3 d4 d5 d6 d7 d8 d9 ez
         try simp only [Act.put, zvy, zvz, zv0]
         obtain ⟨ws4, hws4⟩ : ∃ V, V = ((((((((((wb.setCell ⟨wd.heap.size, 0, none⟩ (.slice (some ⟨bw, 0, none⟩) ws.length cw)).setCell ⟨wd.heap.size, 1, none⟩ (.int .i64 sm)).setCell ⟨wd.heap.size, 2, none⟩ (.int .i64 (1 - toh))).setCell ⟨wd.heap.size, 3, none⟩ (.int .i64 (a2.T : Int))).setCell ⟨wd.heap.size, 4, none⟩ (.bool true)).setCell ⟨wd.heap.size, 5, none⟩ (.int .i64 (S' : Int))).setCell ⟨wd.heap.size, 6, none⟩ (.int .i64 (T : Int))).setCell ⟨wd.heap.size, 7, none⟩ (.int .i64 (a2.C : Int))).setCell ⟨wd.heap.size, 8, none⟩ (.int .i64 sr)).setCell ⟨wd.heap.size, 9, none⟩ (.slice (some ⟨br, 0, none⟩) rs.length cr)) := ⟨_, rfl⟩
         have r4' : ws4.rowIs wd.heap.size 30 10 (fun i => (#[.slice (some ⟨bw, 0, none⟩) ws.length cw, .int .i64 sm, .int .i64 (1 - toh), .int .i64 (a2.T : Int), .bool true, .int .i64 (S' : Int), .int .i64 (T : Int), .int .i64 (a2.C : Int), .int .i64 sr, .slice (some ⟨br, 0, none⟩) rs.length cr] : Array Value).getD i (.bool false)) := by rw [hws4]; exact ze5 r4 rfl rfl rfl rfl rfl rfl rfl rfl rfl rfl
         have r5' : ws4.rowIs wf.heap.size 50 2 (fun i => (#[.int .i64 0, .int .i64 0] : Array Value).getD i (.bool false)) := by rw [hws4]; exact World.rowIs.of_block r5 (zam n45.symm)
         have hW4 : RwW ws4 bw a2.ws := by rw [hws4]; exact Rw.of_block hWb (zam (by omega))
         rw [<- hws4] at hHeld ⊢
         clear hws4 hHs
         have y0 := r5'.cell (i := 0) (by omega)
         have y1 := r5'.cell (i := 1) (by omega)
         simp at y0 y1
         have ey := World.rowIs.frozen r5'
         refine wpAnyH_ready (rs := [13]) (by kernel_rfl) (by simp) ?_
         refine AllReadyH.cons (o := { dst := none, op := _, type := _, pos := _, after := _, guard := _ }) rfl (fun K hK => ?_) AllReadyH.nil
         go_simp
         have hHs := hHeld.1
         clear hHeld
         refine hK.out _ _ (KP _ ((hHs.setCell (p := ⟨wf.heap.size, 0, none⟩) (.inr l5) _).setCell (p := ⟨wf.heap.size, 1, none⟩) (.inr l5) _)) (fun hHeld => ?_)
         clear hK K
         try simp only [Act.put, zvy, zvz, zv0]
         refine wpAnyH_done (by kernel_rfl) ?_ _
         go_wp2_with fail
         go_meet
         refine ⟨wd.heap.size, wf.heap.size, rfl, rfl, (r4'.setOther (a := ⟨wf.heap.size, 0, none⟩) n45 _).setOther (a := ⟨wf.heap.size, 1, none⟩) n45 _, zfr r5' rfl rfl, l4, l5, n45, Rw.other (Rw.other hW4 (p := ⟨wf.heap.size, 0, none⟩) (by show bw ≠ wf.heap.size; omega) _) (p := ⟨wf.heap.size, 1, none⟩) (by show bw ≠ wf.heap.size; omega) _, hHeld.1⟩
       · go_simp
         have hHa := hHeld.1
         clear hHeld
         refine hK.out _ _ (KP _ (hHa.alloc _)) (fun hHeld => ?_)
         clear hK K
         try simp only [Act.put, zvy, zvz, zv0]
         obtain ⟨wb, hwa⟩ : ∃ V, V = wa.alloc (.cells #[.int .i64 0, .int .i64 0] 50) := ⟨_, rfl⟩
         rw [<- hwa] at hHeld ⊢
         have ba : Below wa.heap.size wa wb := by rw [hwa]; exact (Below.refl _ _).alloc (Nat.le_refl _) _
         have r5 : wb.rowIs wa.heap.size 50 2 (fun i => (#[.int .i64 0, .int .i64 0] : Array Value).getD i (.bool false)) := by rw [hwa]; exact zdg rfl
         have l5 : wr.heap.size <= wa.heap.size := hHa.size
         have n45 : wd.heap.size ≠ wa.heap.size := by have := World.rowIs.lt r4; omega
         have r4 := World.rowIs.of_block r4 (ba.block _ (World.rowIs.lt r4))
         have hWb := Rw.below hWa ba
         clear hwa hHa ba
         refine wpAnyH_ready (rs := [6]) (by kernel_rfl) (by simp) ?_
         refine AllReadyH.cons (o := { dst := some 37, op := _, type := _, pos := _, after := _, guard := _ }) rfl (fun K hK => ?_) AllReadyH.nil
         go_simp
         go_at_call 147
         refine (HFW.out _ hWb).mono ?_
         rintro e wf ⟨rfl, hWf, hKf⟩
         have hKn := hHeld.1.trans hKf
         have r4 := World.rowIs.of_block r4 (hKf.block _ (World.rowIs.lt r4) (by simp; omega))
         have r5 := World.rowIs.of_block r5 (hKf.block _ (World.rowIs.lt r5) (by simp; omega))
         have hsz := hKf.size
         clear hHeld hKf
         refine hK.out _ _ (KP _ hKn) (fun hHeld => ?_)
         clear hK K hKn
         try simp only [Act.put, zvy, zvz, zv0]
         refine wpAnyH_take (i := 7) (oi := { dst := some 30, op := _, type := _, pos := _, after := _, guard := _ }) (v := .tuple #[.agg #[.slice (some ⟨bw, 0, none⟩) ws.length cw, .int .i64 sm, .int .i64 (1 - toh), .int .i64 (a2.T : Int), .bool true, .int .i64 (S' : Int), .int .i64 (T : Int), .int .i64 (a2.C : Int), .int .i64 sr, .slice (some ⟨br, 0, none⟩) rs.length cr], .agg #[.int .i64 t, .int .i64 m2]]) rfl (by kernel_rfl) (by kernel_rfl) (by kernel_rfl) (fun _ _ _ h => h) (Or.inl ⟨by kernel_rfl, ?_⟩) hHeld ?_
         · intro w hSw
           (try dsimp only at hSw)
           go_simp
         try simp only [Act.put, zvy, zvz, zv0]
         refine wpAnyH_take (i := 8) (oi := { dst := some 38, op := _, type := _, pos := _, after := _, guard := _ }) (v := .agg #[.slice (some ⟨bw, 0, none⟩) ws.length cw, .int .i64 sm, .int .i64 (1 - toh), .int .i64 (a2.T : Int), .bool true, .int .i64 (S' : Int), .int .i64 (T : Int), .int .i64 (a2.C : Int), .int .i64 sr, .slice (some ⟨br, 0, none⟩) rs.length cr]) rfl (by kernel_rfl) (by kernel_rfl) (by kernel_rfl) (fun _ _ _ h => h) (Or.inl ⟨by kernel_rfl, ?_⟩) hHeld ?_
         · intro w hSw
           (try dsimp only at hSw)
           go_simp
         try simp only [Act.put, zvy, zvz, zv0]
         refine wpAnyH_take (i := 9) (oi := { dst := some 39, op := _, type := _, pos := _, after := _, guard := _ }) (v := .agg #[.int .i64 t, .int .i64 m2]) rfl (by kernel_rfl) (by kernel_rfl) (by kernel_rfl) (fun _ _ _ h => h) (Or.inl ⟨by kernel_rfl, ?_⟩) hHeld ?_
         · intro w hSw
           (try dsimp only at hSw)
           go_simp
         try simp only [Act.put, zvy, zvz, zv0]
         obtain ⟨d0, d1, d2, d3, d4, d5, d6, d7, d8, d9⟩ := zcu r4 rfl rfl rfl rfl rfl rfl rfl rfl rfl rfl
         simp at d0 d1 d2 d3 d4 d5 d6 d7 d8 d9
         have ez := World.rowIs.frozen r4
         refine wpAnyH_ready (rs := [12]) (by kernel_rfl) (by simp) ?_
         refine AllReadyH.cons (o := { dst := none, op := _, type := _, pos := _, after := _, guard := _ }) rfl (fun K hK => ?_) AllReadyH.nil
         go_simp
         have hHs := hHeld.1
         clear hHeld
         refine hK.out _ _ (KP _ (zfd hHs l4)) (fun hHeld => ?_)
         clear hK K d0 d1 d2 d3 d4 d5 d6 d7 d8 d9 ez
         try simp only [Act.put, zvy, zvz, zv0]
         obtain ⟨ws4, hws4⟩ : ∃ V, V = ((((((((((wf.setCell ⟨wd.heap.size, 0, none⟩ (.slice (some ⟨bw, 0, none⟩) ws.length cw)).setCell ⟨wd.heap.size, 1, none⟩ (.int .i64 sm)).setCell ⟨wd.heap.size, 2, none⟩ (.int .i64 (1 - toh))).setCell ⟨wd.heap.size, 3, none⟩ (.int .i64 (a2.T : Int))).setCell ⟨wd.heap.size, 4, none⟩ (.bool true)).setCell ⟨wd.heap.size, 5, none⟩ (.int .i64 (S' : Int))).setCell ⟨wd.heap.size, 6, none⟩ (.int .i64 (T : Int))).setCell ⟨wd.heap.size, 7, none⟩ (.int .i64 (a2.C : Int))).setCell ⟨wd.heap.size, 8, none⟩ (.int .i64 sr)).setCell ⟨wd.heap.size, 9, none⟩ (.slice (some ⟨br, 0, none⟩) rs.length cr)) := ⟨_, rfl⟩
         have r4' : ws4.rowIs wd.heap.size 30 10 (fun i => (#[.slice (some ⟨bw, 0, none⟩) ws.length cw, .int .i64 sm, .int .i64 (1 - toh), .int .i64 (a2.T : Int), .bool true, .int .i64 (S' : Int), .int .i64 (T : Int), .int .i64 (a2.C : Int), .int .i64 sr, .slice (some ⟨br, 0, none⟩) rs.length cr] : Array Value).getD i (.bool false)) := by rw [hws4]; exact ze5 r4 rfl rfl rfl rfl rfl rfl rfl rfl rfl rfl
         have r5' : ws4.rowIs wa.heap.size 50 2 (fun i => (#[.int .i64 0, .int .i64 0] : Array Value).getD i (.bool false)) := by rw [hws4]; exact World.rowIs.of_block r5 (zam n45.symm)
         have hW4 : RwW ws4 bw a2.ws := by rw [hws4]; exact Rw.of_block hWf (zam (by omega))
         rw [<- hws4] at hHeld ⊢
         clear hws4 hHs
         have y0 := r5'.cell (i := 0) (by omega)
         have y1 := r5'.cell (i := 1) (by omega)
         simp at y0 y1
         have ey := World.rowIs.frozen r5'
         refine wpAnyH_ready (rs := [13]) (by kernel_rfl) (by simp) ?_
         refine AllReadyH.cons (o := { dst := none, op := _, type := _, pos := _, after := _, guard := _ }) rfl (fun K hK => ?_) AllReadyH.nil
         go_simp
         have hHs := hHeld.1
         clear hHeld
         refine hK.out _ _ (KP _ ((hHs.setCell (p := ⟨wa.heap.size, 0, none⟩) (.inr l5) _).setCell (p := ⟨wa.heap.size, 1, none⟩) (.inr l5) _)) (fun hHeld => ?_)
         clear hK K
         try simp only [Act.put, zvy, zvz, zv0]
         refine wpAnyH_done (by kernel_rfl) ?_ _
         go_wp2_with fail
         go_meet
         refine ⟨wd.heap.size, wa.heap.size, rfl, rfl, (r4'.setOther (a := ⟨wa.heap.size, 0, none⟩) n45 _).setOther (a := ⟨wa.heap.size, 1, none⟩) n45 _, zfr r5' rfl rfl, l4, l5, n45, Rw.other (Rw.other hW4 (p := ⟨wa.heap.size, 0, none⟩) (by show bw ≠ wa.heap.size; omega) _) (p := ⟨wa.heap.size, 1, none⟩) (by show bw ≠ wa.heap.size; omega) _, hHeld.1⟩
     · go_simp
       have hHa := hHeld.1
       clear hHeld
       refine hK.out _ _ (KP _ (hHa.alloc _)) (fun hHeld => ?_)
       clear hK K
       try simp only [Act.put, zvy, zvz, zv0]
       obtain ⟨wb, hwa⟩ : ∃ V, V = wd.alloc (.cells #[.int .i64 0, .int .i64 0] 50) := ⟨_, rfl⟩
       rw [<- hwa] at hHeld ⊢
       have ba : Below wd.heap.size wd wb := by rw [hwa]; exact (Below.refl _ _).alloc (Nat.le_refl _) _
       have r5 : wb.rowIs wd.heap.size 50 2 (fun i => (#[.int .i64 0, .int .i64 0] : Array Value).getD i (.bool false)) := by rw [hwa]; exact zdg rfl
       have l5 : wr.heap.size <= wd.heap.size := hHa.size
       have hWb := Rw.below hWd ba
       clear hwa hHa ba
       refine wpAnyH_ready (rs := [6, 10]) (by kernel_rfl) (by simp) ?_
       refine AllReadyH.cons (o := { dst := some 37, op := _, type := _, pos := _, after := _, guard := _ }) rfl (fun K hK => ?_) (AllReadyH.cons (o := { dst := some 4, op := _, type := _, pos := _, after := _, guard := _ }) rfl (fun K hK => ?_) AllReadyH.nil)
       · go_simp
         go_at_call 147
         refine (HFW.out _ hWb).mono ?_
         rintro e wf ⟨rfl, hWf, hKf⟩
         have hKn := hHeld.1.trans hKf
         have r5 := World.rowIs.of_block r5 (hKf.block _ (World.rowIs.lt r5) (by simp; omega))
         have hsz := hKf.size
         clear hHeld hKf
         refine hK.out _ _ (KP _ hKn) (fun hHeld => ?_)
         clear hK K hKn
         try simp only [Act.put, zvy, zvz, zv0]
         refine wpAnyH_take (i := 7) (oi := { dst := some 30, op := _, type := _, pos := _, after := _, guard := _ }) (v := .tuple #[.agg #[.slice (some ⟨bw, 0, none⟩) ws.length cw, .int .i64 sm, .int .i64 (1 - toh), .int .i64 (a2.T : Int), .bool true, .int .i64 (S' : Int), .int .i64 (T : Int), .int .i64 (a2.C : Int), .int .i64 sr, .slice (some ⟨br, 0, none⟩) rs.length cr], .agg #[.int .i64 t, .int .i64 m2]]) rfl (by kernel_rfl) (by kernel_rfl) (by kernel_rfl) (fun _ _ _ h => h) (Or.inl ⟨by kernel_rfl, ?_⟩) hHeld ?_
         · intro w hSw
           (try dsimp only at hSw)
           go_simp
         try simp only [Act.put, zvy, zvz, zv0]
         refine wpAnyH_take (i := 8) (oi := { dst := some 38, op := _, type := _, pos := _, after := _, guard := _ }) (v := .agg #[.slice (some ⟨bw, 0, none⟩) ws.length cw, .int .i64 sm, .int .i64 (1 - toh), .int .i64 (a2.T : Int), .bool true, .int .i64 (S' : Int), .int .i64 (T : Int), .int .i64 (a2.C : Int), .int .i64 sr, .slice (some ⟨br, 0, none⟩) rs.length cr]) rfl (by kernel_rfl) (by kernel_rfl) (by kernel_rfl) (fun _ _ _ h => h) (Or.inl ⟨by kernel_rfl, ?_⟩) hHeld ?_
         · intro w hSw
           (try dsimp only at hSw)
           go_simp
         try simp only [Act.put, zvy, zvz, zv0]
         refine wpAnyH_take (i := 9) (oi := { dst := some 39, op := _, type := _, pos := _, after := _, guard := _ }) (v := .agg #[.int .i64 t, .int .i64 m2]) rfl (by kernel_rfl) (by kernel_rfl) (by kernel_rfl) (fun _ _ _ h => h) (Or.inl ⟨by kernel_rfl, ?_⟩) hHeld ?_
         · intro w hSw
           (try dsimp only at hSw)
           go_simp
         try simp only [Act.put, zvy, zvz, zv0]
         refine wpAnyH_ready (rs := [10]) (by kernel_rfl) (by simp) ?_
         refine AllReadyH.cons (o := { dst := some 4, op := _, type := _, pos := _, after := _, guard := _ }) rfl (fun K hK => ?_) AllReadyH.nil
         go_simp
         have hHa := hHeld.1
         clear hHeld
         refine hK.out _ _ (KP _ (hHa.alloc _)) (fun hHeld => ?_)
         clear hK K
         try simp only [Act.put, zvy, zvz, zv0]
         obtain ⟨wa, hwa⟩ : ∃ V, V = wf.alloc (.cells #[.slice none 0 0, .int .i64 0, .int .i64 0, .int .i64 0, .bool false, .int .i64 0, .int .i64 0, .int .i64 0, .int .i64 0, .slice none 0 0] 30) := ⟨_, rfl⟩
         rw [<- hwa] at hHeld ⊢
         have ba : Below wf.heap.size wf wa := by rw [hwa]; exact (Below.refl _ _).alloc (Nat.le_refl _) _
         have r4 : wa.rowIs wf.heap.size 30 10 (fun i => (#[.slice none 0 0, .int .i64 0, .int .i64 0, .int .i64 0, .bool false, .int .i64 0, .int .i64 0, .int .i64 0, .int .i64 0, .slice none 0 0] : Array Value).getD i (.bool false)) := by rw [hwa]; exact zdg rfl
         have l4 : wr.heap.size <= wf.heap.size := hHa.size
         have n45 : wf.heap.size ≠ wd.heap.size := by have := World.rowIs.lt r5; omega
         have r5 := World.rowIs.of_block r5 (ba.block _ (World.rowIs.lt r5))
         have hWa := Rw.below hWf ba
         clear hwa hHa ba
         obtain ⟨d0, d1, d2, d3, d4, d5, d6, d7, d8, d9⟩ := zcu r4 rfl rfl rfl rfl rfl rfl rfl rfl rfl rfl
         simp at d0 d1 d2 d3 d4 d5 d6 d7 d8 d9
         have ez := World.rowIs.frozen r4
         refine wpAnyH_ready (rs := [12]) (by kernel_rfl) (by simp) ?_
         refine AllReadyH.cons (o := { dst := none, op := _, type := _, pos := _, after := _, guard := _ }) rfl (fun K hK => ?_) AllReadyH.nil
         go_simp
         have hHs := hHeld.1
         clear hHeld
         refine hK.out _ _ (KP _ (zfd hHs l4)) (fun hHeld => ?_)
         clear hK K d0 d1 d2 d3 d4 d5 d6 d7 d8 d9 ez
         try simp only [Act.put, zvy, zvz, zv0]
         obtain ⟨ws4, hws4⟩ : ∃ V, V = ((((((((((wa.setCell ⟨wf.heap.size, 0, none⟩ (.slice (some ⟨bw, 0, none⟩) ws.length cw)).setCell ⟨wf.heap.size, 1, none⟩ (.int .i64 sm)).setCell ⟨wf.heap.size, 2, none⟩ (.int .i64 (1 - toh))).setCell ⟨wf.heap.size, 3, none⟩ (.int .i64 (a2.T : Int))).setCell ⟨wf.heap.size, 4, none⟩ (.bool true)).setCell ⟨wf.heap.size, 5, none⟩ (.int .i64 (S' : Int))).setCell ⟨wf.heap.size, 6, none⟩ (.int .i64 (T : Int))).setCell ⟨wf.heap.size, 7, none⟩ (.int .i64 (a2.C : Int))).setCell ⟨wf.heap.size, 8, none⟩ (.int .i64 sr)).setCell ⟨wf.heap.size, 9, none⟩ (.slice (some ⟨br, 0, none⟩) rs.length cr)) := ⟨_, rfl⟩
         have r4' : ws4.rowIs wf.heap.size 30 10 (fun i => (#[.slice (some ⟨bw, 0, none⟩) ws.length cw, .int .i64 sm, .int .i64 (1 - toh), .int .i64 (a2.T : Int), .bool true, .int .i64 (S' : Int), .int .i64 (T : Int), .int .i64 (a2.C : Int), .int .i64 sr, .slice (some ⟨br, 0, none⟩) rs.length cr] : Array Value).getD i (.bool false)) := by rw [hws4]; exact ze5 r4 rfl rfl rfl rfl rfl rfl rfl rfl rfl rfl
         have r5' : ws4.rowIs wd.heap.size 50 2 (fun i => (#[.int .i64 0, .int .i64 0] : Array Value).getD i (.bool false)) := by rw [hws4]; exact World.rowIs.of_block r5 (zam n45.symm)
         have hW4 : RwW ws4 bw a2.ws := by rw [hws4]; exact Rw.of_block hWa (zam (by omega))
         rw [<- hws4] at hHeld ⊢
         clear hws4 hHs
         have y0 := r5'.cell (i := 0) (by omega)
         have y1 := r5'.cell (i := 1) (by omega)
         simp at y0 y1
         have ey := World.rowIs.frozen r5'
         refine wpAnyH_ready (rs := [13]) (by kernel_rfl) (by simp) ?_
         refine AllReadyH.cons (o := { dst := none, op := _, type := _, pos := _, after := _, guard := _ }) rfl (fun K hK => ?_) AllReadyH.nil
         go_simp
         have hHs := hHeld.1
         clear hHeld
         refine hK.out _ _ (KP _ ((hHs.setCell (p := ⟨wd.heap.size, 0, none⟩) (.inr l5) _).setCell (p := ⟨wd.heap.size, 1, none⟩) (.inr l5) _)) (fun hHeld => ?_)
         clear hK K
         try simp only [Act.put, zvy, zvz, zv0]
         refine wpAnyH_done (by kernel_rfl) ?_ _
         go_wp2_with fail
         go_meet
         refine ⟨wf.heap.size, wd.heap.size, rfl, rfl, (r4'.setOther (a := ⟨wd.heap.size, 0, none⟩) n45 _).setOther (a := ⟨wd.heap.size, 1, none⟩) n45 _, zfr r5' rfl rfl, l4, l5, n45, Rw.other (Rw.other hW4 (p := ⟨wd.heap.size, 0, none⟩) (by show bw ≠ wd.heap.size; omega) _) (p := ⟨wd.heap.size, 1, none⟩) (by show bw ≠ wd.heap.size; omega) _, hHeld.1⟩
       · go_simp
         have hHa := hHeld.1
         clear hHeld
         refine hK.out _ _ (KP _ (hHa.alloc _)) (fun hHeld => ?_)
         clear hK K
         try simp only [Act.put, zvy, zvz, zv0]
         obtain ⟨wa, hwa⟩ : ∃ V, V = wb.alloc (.cells #[.slice none 0 0, .int .i64 0, .int .i64 0, .int .i64 0, .bool false, .int .i64 0, .int .i64 0, .int .i64 0, .int .i64 0, .slice none 0 0] 30) := ⟨_, rfl⟩
         rw [<- hwa] at hHeld ⊢
         have ba : Below wb.heap.size wb wa := by rw [hwa]; exact (Below.refl _ _).alloc (Nat.le_refl _) _
         have r4 : wa.rowIs wb.heap.size 30 10 (fun i => (#[.slice none 0 0, .int .i64 0, .int .i64 0, .int .i64 0, .bool false, .int .i64 0, .int .i64 0, .int .i64 0, .int .i64 0, .slice none 0 0] : Array Value).getD i (.bool false)) := by rw [hwa]; exact zdg rfl
         have l4 : wr.heap.size <= wb.heap.size := hHa.size
         have n45 : wb.heap.size ≠ wd.heap.size := by have := World.rowIs.lt r5; omega
         have r5 := World.rowIs.of_block r5 (ba.block _ (World.rowIs.lt r5))
         have hWa := Rw.below hWb ba
         clear hwa hHa ba
         refine wpAnyH_ready (rs := [6]) (by kernel_rfl) (by simp) ?_
         refine AllReadyH.cons (o := { dst := some 37, op := _, type := _, pos := _, after := _, guard := _ }) rfl (fun K hK => ?_) AllReadyH.nil
         go_simp
         go_at_call 147
         refine (HFW.out _ hWa).mono ?_
         rintro e wf ⟨rfl, hWf, hKf⟩
         have hKn := hHeld.1.trans hKf
         have r4 := World.rowIs.of_block r4 (hKf.block _ (World.rowIs.lt r4) (by simp; omega))
         have r5 := World.rowIs.of_block r5 (hKf.block _ (World.rowIs.lt r5) (by simp; omega))
         have hsz := hKf.size
         clear hHeld hKf
         refine hK.out _ _ (KP _ hKn) (fun hHeld => ?_)
         clear hK K hKn
         try simp only [Act.put, zvy, zvz, zv0]
         refine wpAnyH_take (i := 7) (oi := { dst := some 30, op := _, type := _, pos := _, after := _, guard := _ }) (v := .tuple #[.agg #[.slice (some ⟨bw, 0, none⟩) ws.length cw, .int .i64 sm, .int .i64 (1 - toh), .int .i64 (a2.T : Int), .bool true, .int .i64 (S' : Int), .int .i64 (T : Int), .int .i64 (a2.C : Int), .int .i64 sr, .slice (some ⟨br, 0, none⟩) rs.length cr], .agg #[.int .i64 t, .int .i64 m2]]) rfl (by kernel_rfl) (by kernel_rfl) (by kernel_rfl) (fun _ _ _ h => h) (Or.inl ⟨by kernel_rfl, ?_⟩) hHeld ?_
         · intro w hSw
           (try dsimp only at hSw)
           go_simp
         try simp only [Act.put, zvy, zvz, zv0]
         refine wpAnyH_take (i := 8) (oi := { dst := some 38, op := _, type := _, pos := _, after := _, guard := _ }) (v := .agg #[.slice (some ⟨bw, 0, none⟩) ws.length cw, .int .i64 sm, .int .i64 (1 - toh), .int .i64 (a2.T : Int), .bool true, .int .i64 (S' : Int), .int .i64 (T : Int), .int .i64 (a2.C : Int), .int .i64 sr, .slice (some ⟨br, 0, none⟩) rs.length cr]) rfl (by kernel_rfl) (by kernel_rfl) (by kernel_rfl) (fun _ _ _ h => h) (Or.inl ⟨by kernel_rfl, ?_⟩) hHeld ?_
         · intro w hSw
           (try dsimp only at hSw)
           go_simp
         try simp only [Act.put, zvy, zvz, zv0]
         refine wpAnyH_take (i := 9) (oi := { dst := some 39, op := _, type := _, pos := _, after := _, guard := _ }) (v := .agg #[.int .i64 t, .int .i64 m2]) rfl (by kernel_rfl) (by kernel_rfl) (by kernel_rfl) (fun _ _ _ h => h) (Or.inl ⟨by kernel_rfl, ?_⟩) hHeld ?_
         · intro w hSw
           (try dsimp only at hSw)
           go_simp
         try simp only [Act.put, zvy, zvz, zv0]
         obtain ⟨d0, d1, d2, d3, d4, d5, d6, d7, d8, d9⟩ := zcu r4 rfl rfl rfl rfl rfl rfl rfl rfl rfl rfl
         simp at d0 d1 d2 d3 d4 d5 d6 d7 d8 d9
         have ez := World.rowIs.frozen r4
         refine wpAnyH_ready (rs := [12]) (by kernel_rfl) (by simp) ?_
         refine AllReadyH.cons (o := { dst := none, op := _, type := _, pos := _, after := _, guard := _ }) rfl (fun K hK => ?_) AllReadyH.nil
         go_simp
         have hHs := hHeld.1
         clear hHeld
         refine hK.out _ _ (KP _ (zfd hHs l4)) (fun hHeld => ?_)
         clear hK K d0 d1 d2 d3 d4 d5 d6 d7 d8 d9 ez
         try simp only [Act.put, zvy, zvz, zv0]
         obtain ⟨ws4, hws4⟩ : ∃ V, V = ((((((((((wf.setCell ⟨wb.heap.size, 0, none⟩ (.slice (some ⟨bw, 0, none⟩) ws.length cw)).setCell ⟨wb.heap.size, 1, none⟩ (.int .i64 sm)).setCell ⟨wb.heap.size, 2, none⟩ (.int .i64 (1 - toh))).setCell ⟨wb.heap.size, 3, none⟩ (.int .i64 (a2.T : Int))).setCell ⟨wb.heap.size, 4, none⟩ (.bool true)).setCell ⟨wb.heap.size, 5, none⟩ (.int .i64 (S' : Int))).setCell ⟨wb.heap.size, 6, none⟩ (.int .i64 (T : Int))).setCell ⟨wb.heap.size, 7, none⟩ (.int .i64 (a2.C : Int))).setCell ⟨wb.heap.size, 8, none⟩ (.int .i64 sr)).setCell ⟨wb.heap.size, 9, none⟩ (.slice (some ⟨br, 0, none⟩) rs.length cr)) := ⟨_, rfl⟩
         have r4' : ws4.rowIs wb.heap.size 30 10 (fun i => (#[.slice (some ⟨bw, 0, none⟩) ws.length cw, .int .i64 sm, .int .i64 (1 - toh), .int .i64 (a2.T : Int), .bool true, .int .i64 (S' : Int), .int .i64 (T : Int), .int .i64 (a2.C : Int), .int .i64 sr, .slice (some ⟨br, 0, none⟩) rs.length cr] : Array Value).getD i (.bool false)) := by rw [hws4]; exact ze5 r4 rfl rfl rfl rfl rfl rfl rfl rfl rfl rfl
         have r5' : ws4.rowIs wd.heap.size 50 2 (fun i => (#[.int .i64 0, .int .i64 0] : Array Value).getD i (.bool false)) := by rw [hws4]; exact World.rowIs.of_block r5 (zam n45.symm)
         have hW4 : RwW ws4 bw a2.ws := by rw [hws4]; exact Rw.of_block hWf (zam (by omega))
         rw [<- hws4] at hHeld ⊢
         clear hws4 hHs
         have y0 := r5'.cell (i := 0) (by omega)
         have y1 := r5'.cell (i := 1) (by omega)
         simp at y0 y1
         have ey := World.rowIs.frozen r5'
         refine wpAnyH_ready (rs := [13]) (by kernel_rfl) (by simp) ?_
         refine AllReadyH.cons (o := { dst := none, op := _, type := _, pos := _, after := _, guard := _ }) rfl (fun K hK => ?_) AllReadyH.nil
         go_simp
         have hHs := hHeld.1
         clear hHeld
         refine hK.out _ _ (KP _ ((hHs.setCell (p := ⟨wd.heap.size, 0, none⟩) (.inr l5) _).setCell (p := ⟨wd.heap.size, 1, none⟩) (.inr l5) _)) (fun hHeld => ?_)
         clear hK K
         try simp only [Act.put, zvy, zvz, zv0]
         refine wpAnyH_done (by kernel_rfl) ?_ _
         go_wp2_with fail
         go_meet
         refine ⟨wb.heap.size, wd.heap.size, rfl, rfl, (r4'.setOther (a := ⟨wd.heap.size, 0, none⟩) n45 _).setOther (a := ⟨wd.heap.size, 1, none⟩) n45 _, zfr r5' rfl rfl, l4, l5, n45, Rw.other (Rw.other hW4 (p := ⟨wd.heap.size, 0, none⟩) (by show bw ≠ wd.heap.size; omega) _) (p := ⟨wd.heap.size, 1, none⟩) (by show bw ≠ wd.heap.size; omega) _, hHeld.1⟩
    case rest =>
     obtain ⟨x4, x5, rfl, rfl, r4, r5, l4, l5, n45, hWc, hKc⟩ := hcut
     have K4 := zz r4 rfl
     have K5 := zz r5 rfl
     have HRAc : Hid (wc.rowIs w.heap.size 30 10 (fun i => (#[.slice (some ⟨bw, 0, none⟩) ws.length cw, .int .i64 sm, .int .i64 (1 - toh), .int .i64 (Tk : Int), .bool true, .int .i64 (S' : Int), .int .i64 (T : Int), .int .i64 (Ck : Int), .int .i64 sr, .slice (some ⟨br, 0, none⟩) rs.length cr] : Array Value).getD i (.bool false))) := HRA3.out.of_block (hKc.block _ lba (by simp; omega))
     have HRKc : Hid (RwR wc br rs.length yk) := Rw.kp HRK.out hKc (by simp; omega)
     have KAc := zz HRAc.out rfl
     have fac := HRAc.out.frozen
     have y0 := HRKc.out.cell (i := k * 2) (by omega)
     have y1 := HRKc.out.cell (i := k * 2 + 1) (by omega)
     have fbr := HRKc.out.frozen
     have HKc : Hid (Kp [bw] wr wc) := hKc
     have HWc : Hid (RwW wc bw a2.ws) := hWc
     have na : w.heap.size ≠ x4 := by omega
     have nb : w.heap.size ≠ x5 := by omega
     have nc : br ≠ x4 := by omega
     have nd : br ≠ x5 := by omega
     have d0 := KAc 0
     have d1 := KAc 1
     have d2 := KAc 2
     have d3 := KAc 3
     have d4 := KAc 4
     have d5 := KAc 5
     have d6 := KAc 6
     have d7 := KAc 7
     have d8 := KAc 8
     have d9 := KAc 9
     simp at d0 d1 d2 d3 d4 d5 d6 d7 d8 d9
     clear r4 hKc hWc KP KA x0 x1 hWl HRA3 HRK KAc
     go_upto_region 12 with fail
     obtain ⟨w5, hw5⟩ : ∃ V, V = ((((((((((wc.setCell ⟨w.heap.size, 0, none⟩ (.slice (some ⟨bw, 0, none⟩) ws.length cw)).setCell ⟨w.heap.size, 1, none⟩ (.int .i64 sm)).setCell ⟨w.heap.size, 2, none⟩ (.int .i64 (1 - toh))).setCell ⟨w.heap.size, 3, none⟩ (.int .i64 (a2.T : Int))).setCell ⟨w.heap.size, 4, none⟩ (.bool true)).setCell ⟨w.heap.size, 5, none⟩ (.int .i64 (S' : Int))).setCell ⟨w.heap.size, 6, none⟩ (.int .i64 (T : Int))).setCell ⟨w.heap.size, 7, none⟩ (.int .i64 (a2.C : Int))).setCell ⟨w.heap.size, 8, none⟩ (.int .i64 sr)).setCell ⟨w.heap.size, 9, none⟩ (.slice (some ⟨br, 0, none⟩) rs.length cr)) := ⟨_, rfl⟩
     rw [<- hw5]
     have HRA5 : Hid (w5.rowIs w.heap.size 30 10 (fun i => (#[.slice (some ⟨bw, 0, none⟩) ws.length cw, .int .i64 sm, .int .i64 (1 - toh), .int .i64 (a2.T : Int), .bool true, .int .i64 (S' : Int), .int .i64 (T : Int), .int .i64 (a2.C : Int), .int .i64 sr, .slice (some ⟨br, 0, none⟩) rs.length cr] : Array Value).getD i (.bool false))) := by
      show w5.rowIs w.heap.size 30 10 (fun i => (#[.slice (some ⟨bw, 0, none⟩) ws.length cw, .int .i64 sm, .int .i64 (1 - toh), .int .i64 (a2.T : Int), .bool true, .int .i64 (S' : Int), .int .i64 (T : Int), .int .i64 (a2.C : Int), .int .i64 sr, .slice (some ⟨br, 0, none⟩) rs.length cr] : Array Value).getD i (.bool false))
      rw [hw5]
      exact ze5 HRAc.out rfl rfl rfl rfl rfl rfl rfl rfl rfl rfl
     have e5 : ∀ x, x ≠ w.heap.size -> w5.heap[x]? = wc.heap[x]? := fun x hx => by rw [hw5]; exact zam hx
     have K5' : ∀ i, w5.cell? ⟨x5, i, none⟩ = (#[.int .i64 t, .int .i64 m2] : Array Value)[i]? := zz (r5.of_block (e5 x5 nb.symm)) rfl
     have HRK5 : Hid (RwR w5 br rs.length yk) := Rw.of_block HRKc.out (e5 br (by omega))
     have HW5 : Hid (RwW w5 bw a2.ws) := Rw.of_block HWc.out (e5 bw (by omega))
     have HK5 : Hid (Kp [bw, br, w.heap.size] w2 w5) := by
      show Kp [bw, br, w.heap.size] w2 w5
      rw [hw5]
      exact zs0 (HKR.out.trans (HKc.out.mono (fun x hx => by simp at hx; simp [hx]))) (by simp)
     have KA5 := zz HRA5.out rfl
     have y0 := HRK5.out.cell (i := k * 2) (by omega)
     have y1 := HRK5.out.cell (i := k * 2 + 1) (by omega)
     have fbr := HRK5.out.frozen
     clear hw5 e5 HRAc HRKc HWc HKc HKR r5 K4 K5 d0 d1 d2 d3 d4 d5 d6 d7 d8 d9 fac
     go_wp2
     refine ⟨⟨k + 1, hlt, by go_num, ?_, ?_, ?_, ?_⟩, by simp [intOf]; omega⟩
     · rw [HEK.out]
       exact (HRA5.out.setOther (a := ⟨br, k * 2, none⟩) (by show w.heap.size ≠ br; omega) _).setOther (a := ⟨br, k * 2 + 1, none⟩) (by show w.heap.size ≠ br; omega) _
     · rw [HEK.out]
       exact Rw.other (Rw.other HW5.out (p := ⟨br, k * 2, none⟩) hne _) (p := ⟨br, k * 2 + 1, none⟩) hne _
     · rw [HEK.out]
       exact .inr ⟨rfl, zkt HRK5.out⟩
     · exact (HK5.out.setCell (p := ⟨br, k * 2, none⟩) (.inl (by simp)) _).setCell (p := ⟨br, k * 2 + 1, none⟩) (.inl (by simp)) _
  · obtain rfl : k = rs.length := by omega
    have hge : ¬ (rs.length : Int) < (rs.length : Int) := by omega
    have KA := zz hRA rfl
    have HRXr : Hid (wr.rowIs (w.heap.size + 1) 30 10 (fun i => (#[.slice none 0 0, .int .i64 0, .int .i64 0, .int .i64 0, .bool false, .int .i64 0, .int .i64 0, .int .i64 0, .int .i64 0, .slice none 0 0] : Array Value).getD i (.bool false))) := HRX2.out.of_block (hKr.block _ HRX2.out.lt (by simp; omega))
    have HKF : Hid (Kp [bw, br] w wr) := zu3 B2 hKr (Nat.le_refl _)
    have HWr : Hid (RwW wr bw (zh S' ⟨ws, S', 0⟩ y rs.length).1.ws) := hWr
    have HRr : Hid (zdw wr ar br rs.length (zh S' ⟨ws, S', 0⟩ y rs.length).2) := hRr
    have zr : w.heap.size + 1 < wr.heap.size := Nat.lt_of_lt_of_le z2 hKr.size
    obtain ⟨R, hRR⟩ : ∃ R, R = zh S' ⟨ws, S', 0⟩ y rs.length := ⟨_, rfl⟩
    rw [<- hRR] at HWr HRr hRA KA
    have HRR : Hid (R = zh S' ⟨ws, S', 0⟩ y rs.length) := hRR
    have HRX' := HRXr.out
    clear hRR hKr hWr hRr hCk hsame hlen HC0 HRA2 HR2 HRX2
    by_cases hov : R.1.T = S'
    · have HOV : Hid (R.1.T = S') := hov
      rw [hov] at KA
      clear hov
      go_wp2_with fail
      refine (zra _ _ _ _ _ _ _ _ _ _ _ _ _).mono ?_
      rintro e w6 ⟨rfl, b6⟩
      have RX6 := HRXr.out.of_block (b6.block _ HRXr.out.lt)
      obtain ⟨d0, d1, d2, d3, d4, d5, d6, d7, d8, d9⟩ := zcu RX6 rfl rfl rfl rfl rfl rfl rfl rfl rfl rfl
      simp at d0 d1 d2 d3 d4 d5 d6 d7 d8 d9
      have fx := RX6.frozen
      have HB6 : Hid (Below wr.heap.size wr w6) := b6
      clear RX6 b6 HRXr HRX' hRA KA
      go_wp2
      have p0 : (w6.cell? ⟨w.heap.size + 1, 0, none⟩).isSome = true := by rw [d0]; rfl
      have p1 : (w6.cell? ⟨w.heap.size + 1, 1, none⟩).isSome = true := by rw [d1]; rfl
      have p2 : (w6.cell? ⟨w.heap.size + 1, 2, none⟩).isSome = true := by rw [d2]; rfl
      have p3 : (w6.cell? ⟨w.heap.size + 1, 3, none⟩).isSome = true := by rw [d3]; rfl
      have p4 : (w6.cell? ⟨w.heap.size + 1, 4, none⟩).isSome = true := by rw [d4]; rfl
      have p5 : (w6.cell? ⟨w.heap.size + 1, 5, none⟩).isSome = true := by rw [d5]; rfl
      have p6 : (w6.cell? ⟨w.heap.size + 1, 6, none⟩).isSome = true := by rw [d6]; rfl
      have p7 : (w6.cell? ⟨w.heap.size + 1, 7, none⟩).isSome = true := by rw [d7]; rfl
      have p8 : (w6.cell? ⟨w.heap.size + 1, 8, none⟩).isSome = true := by rw [d8]; rfl
      have p9 : (w6.cell? ⟨w.heap.size + 1, 9, none⟩).isSome = true := by rw [d9]; rfl
      refine bodyPost_ret (v := .agg #[.slice (some ⟨bw, 0, none⟩) ws.length cw, .int .i64 sm, .int .i64 (1 - toh), .int .i64 (S' : Int), .bool false, .int .i64 0, .int .i64 0, .int .i64 0, .int .i64 sr, .slice ar rs.length cr]) (by simp [results, Tryz.results104, go_sem, p0, p1, p2, p3, p4, p5, p6, p7, p8, p9]) rfl ⟨?_, ?_, ?_, ?_⟩
      · rw [<- HRR.out]
        simp [ovB, ovI, HOV.out]
      · rw [<- HRR.out]
        exact Rw.of_block (Rw.below HWr.out HB6.out) (zam (by omega))
      · rw [<- HRR.out]
        rcases HRr.out with h | ⟨h, h'⟩
        · exact .inl h
        · exact .inr ⟨h, Rw.of_block (Rw.below h' HB6.out) (zam (by omega))⟩
      · exact zfd (HKF.out.next HB6.out) (by omega)
    · have HOV : Hid (¬ R.1.T = S') := hov
      clear hov
      go_wp2_with fail
      refine (zs1 _ _ _ _ _ _ _ _ _ _ _ _ _ _ _ (by intro g; exact HOV.out (by have := g.2; omega))).mono ?_
      rintro e w6 ⟨rfl, b6⟩
      have RX6 := HRXr.out.of_block (b6.block _ HRXr.out.lt)
      obtain ⟨d0, d1, d2, d3, d4, d5, d6, d7, d8, d9⟩ := zcu RX6 rfl rfl rfl rfl rfl rfl rfl rfl rfl rfl
      simp at d0 d1 d2 d3 d4 d5 d6 d7 d8 d9
      have fx := RX6.frozen
      have HB6 : Hid (Below wr.heap.size wr w6) := b6
      clear RX6 b6 HRXr HRX' hRA KA
      go_wp2
      have p0 : (w6.cell? ⟨w.heap.size + 1, 0, none⟩).isSome = true := by rw [d0]; rfl
      have p1 : (w6.cell? ⟨w.heap.size + 1, 1, none⟩).isSome = true := by rw [d1]; rfl
      have p2 : (w6.cell? ⟨w.heap.size + 1, 2, none⟩).isSome = true := by rw [d2]; rfl
      have p3 : (w6.cell? ⟨w.heap.size + 1, 3, none⟩).isSome = true := by rw [d3]; rfl
      have p4 : (w6.cell? ⟨w.heap.size + 1, 4, none⟩).isSome = true := by rw [d4]; rfl
      have p5 : (w6.cell? ⟨w.heap.size + 1, 5, none⟩).isSome = true := by rw [d5]; rfl
      have p6 : (w6.cell? ⟨w.heap.size + 1, 6, none⟩).isSome = true := by rw [d6]; rfl
      have p7 : (w6.cell? ⟨w.heap.size + 1, 7, none⟩).isSome = true := by rw [d7]; rfl
      have p8 : (w6.cell? ⟨w.heap.size + 1, 8, none⟩).isSome = true := by rw [d8]; rfl
      have p9 : (w6.cell? ⟨w.heap.size + 1, 9, none⟩).isSome = true := by rw [d9]; rfl
      refine bodyPost_ret (v := .agg #[.slice (some ⟨bw, 0, none⟩) ws.length cw, .int .i64 sm, .int .i64 (1 - toh), .int .i64 (R.1.T : Int), .bool true, .int .i64 (S' : Int), .int .i64 (T : Int), .int .i64 (R.1.C : Int), .int .i64 sr, .slice ar rs.length cr]) (by simp [results, Tryz.results104, go_sem, p0, p1, p2, p3, p4, p5, p6, p7, p8, p9]) rfl ⟨?_, ?_, ?_, ?_⟩
      · rw [<- HRR.out]
        simp [ovB, ovI, HOV.out]
      · rw [<- HRR.out]
        exact Rw.of_block (Rw.below HWr.out HB6.out) (zam (by omega))
      · rw [<- HRR.out]
        rcases HRr.out with h | ⟨h, h'⟩
        · exact .inl h
        · exact .inr ⟨h, Rw.of_block (Rw.below h' HB6.out) (zam (by omega))⟩
      · exact zfd (HKF.out.next HB6.out) (by omega)
set_option maxHeartbeats 1000000 in
theorem zll (ba bw cw : Nat) (ws : List Int) (sm toh sn old cp sr : Int) (ar : Option Addr) (cr : Nat) (rs : List (Int × Int)) (w : World) (hA : w.rowIs ba 30 10 (fun i => (#[.slice (some ⟨bw, 0, none⟩) ws.length cw, .int .i64 sm, .int .i64 toh, .int .i64 sn, .bool true, .int .i64 sn, .int .i64 old, .int .i64 cp, .int .i64 sr, .slice ar rs.length cr] : Array Value).getD i (.bool false))) :
 Calls Tryz.prog 151 #[.pointer (some ⟨ba, 0, none⟩)] w fun e w' => e = .returned (.tuple #[]) /\ w'.rowIs ba 30 10 (fun i => (#[.slice (some ⟨bw, 0, none⟩) ws.length cw, .int .i64 sm, .int .i64 toh, .int .i64 sn, .bool false, .int .i64 0, .int .i64 0, .int .i64 0, .int .i64 sr, .slice ar rs.length cr] : Array Value).getD i (.bool false)) /\ Kp [ba] w w' := by
 have HA : Hid (w.rowIs ba 30 10 (fun i => (#[.slice (some ⟨bw, 0, none⟩) ws.length cw, .int .i64 sm, .int .i64 toh, .int .i64 sn, .bool true, .int .i64 sn, .int .i64 old, .int .i64 cp, .int .i64 sr, .slice ar rs.length cr] : Array Value).getD i (.bool false))) := hA
 have KA := zz hA rfl
 have fa := hA.frozen
 have lba := hA.lt
 clear hA
 go_enter Tryz.func151, Tryz.ntmps151
 go_wp2
 go_quiet (fail)
 go_wp2
 go_end0
 refine ⟨rfl, ?_, ?_⟩
 · have h0 : (w.drewN nq).rowIs ba 30 10 _ := HA.out
   refine ((((h0.set 4 _).set 5 _).set 6 _).set 7 _).congr fun i hi => ?_
   have hi2 : i = 0 \/ i = 1 \/ i = 2 \/ i = 3 \/ i = 4 \/ i = 5 \/ i = 6 \/ i = 7 \/ i = 8 \/ i = 9 := by omega
   rcases hi2 with rfl | rfl | rfl | rfl | rfl | rfl | rfl | rfl | rfl | rfl <;> rfl
 · have h0 : Kp [ba] w (w.drewN nq) := Kp.of_below (below_drewN (Below.refl _ _) _)
   exact (((h0.setCell (p := ⟨ba, 4, none⟩) (.inl (by simp)) _).setCell (p := ⟨ba, 5, none⟩) (.inl (by simp)) _).setCell (p := ⟨ba, 6, none⟩) (.inl (by simp)) _).setCell (p := ⟨ba, 7, none⟩) (.inl (by simp)) _
set_option maxHeartbeats 1000000 in
theorem znp (ba bw cw : Nat) (ws : List Int) (sm toh top : Int) (cyc : Bool) (sn old cp sr : Int) (ar : Option Addr) (cr : Nat) (rs : List (Int × Int)) (w : World) (hA : w.rowIs ba 30 10 (fun i => (#[.slice (some ⟨bw, 0, none⟩) ws.length cw, .int .i64 sm, .int .i64 toh, .int .i64 top, .bool cyc, .int .i64 sn, .int .i64 old, .int .i64 cp, .int .i64 sr, .slice ar rs.length cr] : Array Value).getD i (.bool false))) (h : ¬ (cyc = true /\ sn = top)) :
 Calls Tryz.prog 151 #[.pointer (some ⟨ba, 0, none⟩)] w fun e w' => e = .returned (.tuple #[]) /\ Below w.heap.size w w' := by
 have KA := zz hA rfl
 clear hA
 cases cyc with
 | false =>
   go_enter Tryz.func151, Tryz.ntmps151
   go_wp2
   go_quiet (fail)
   go_wp2
   go_end0
   exact ⟨rfl, below_drewN (Below.refl _ _) _⟩
 | true =>
   have hne : (sn == top) = false := beq_eq_false_iff_ne.2 (fun g => h ⟨rfl, g⟩)
   clear h
   go_enter Tryz.func151, Tryz.ntmps151
   go_wp2
   go_quiet (fail)
   go_wp2
   go_end0
   exact ⟨rfl, below_drewN (Below.refl _ _) _⟩
set_option maxHeartbeats 4000000 in
theorem zum (ba bw cw br : Nat) (ws : List Int) (sm toh : Int) (T : Nat) (cyc : Bool) (sn old cp sr : Int) (ar : Option Addr) (cr : Nat) (rs : List (Int × Int)) (y : Nat -> Int) (w : World) {S E S' E' : Nat} {L : List Nat} (hA : w.rowIs ba 30 10 (fun i => (#[.slice (some ⟨bw, 0, none⟩) ws.length cw, .int .i64 sm, .int .i64 toh, .int .i64 (T : Int), .bool cyc, .int .i64 sn, .int .i64 old, .int .i64 cp, .int .i64 sr, .slice ar rs.length cr] : Array Value).getD i (.bool false))) (hW : RwW w bw ws) (hR : zdw w ar br rs.length y) (hab : ba ≠ bw) (har : ba ≠ br) (hbr : br < w.heap.size) (hne0 : 0 < rs.length -> bw ≠ br) (hcw : ws.length <= cw) (hSt : zfg ws S T E L) (hy : zek y rs.length L) (hH : zd2 sm (1 - toh) S' E' S T) (h1 : E' <= S \/ T <= S') (h2 : S' + (T - S) <= E') (h3 : E' <= ws.length) (h4 : 1 <= S') (hrl : rs.length <= 24) :
 Calls Tryz.prog 105 #[.pointer (some ⟨ba, 0, none⟩)] w fun e w' => e = .returned (.tuple #[]) /\ w'.rowIs ba 30 10 (fun i => (#[.slice (some ⟨bw, 0, none⟩) ws.length cw, .int .i64 sm, .int .i64 (1 - toh), .int .i64 ((zh S' ⟨ws, S', 0⟩ y rs.length).1.T : Int), .bool (ovB S' (zh S' ⟨ws, S', 0⟩ y rs.length).1.T), .int .i64 (ovI S' (zh S' ⟨ws, S', 0⟩ y rs.length).1.T (S' : Int)), .int .i64 (ovI S' (zh S' ⟨ws, S', 0⟩ y rs.length).1.T (T : Int)), .int .i64 (ovI S' (zh S' ⟨ws, S', 0⟩ y rs.length).1.T ((zh S' ⟨ws, S', 0⟩ y rs.length).1.C : Int)), .int .i64 sr, .slice ar rs.length cr] : Array Value).getD i (.bool false)) /\ RwW w' bw (zh S' ⟨ws, S', 0⟩ y rs.length).1.ws /\ zdw w' ar br rs.length (zh S' ⟨ws, S', 0⟩ y rs.length).2 /\ Kp [bw, br, ba] w w' := by
 have t0 := hH.t0
 have t1 := hH.t1
 have s0 := hH.s0
 have s1 := hH.s1
 have hS' := hH.hS
 have HST : Hid (zfg ws S T E L) := hSt
 have HY : Hid (zek y rs.length L) := hy
 have HH : Hid (zd2 sm (1 - toh) S' E' S T) := hH
 have HW : Hid (RwW w bw ws) := hW
 have HR : Hid (zdw w ar br rs.length y) := hR
 have HA : Hid (w.rowIs ba 30 10 (fun i => (#[.slice (some ⟨bw, 0, none⟩) ws.length cw, .int .i64 sm, .int .i64 toh, .int .i64 (T : Int), .bool cyc, .int .i64 sn, .int .i64 old, .int .i64 cp, .int .i64 sr, .slice ar rs.length cr] : Array Value).getD i (.bool false))) := hA
 have KA := zz hA rfl
 have fa := hA.frozen
 have lba := hA.lt
 have lbw := hW.lt
 clear hSt hy hH hW hR hA
 go_enter Tryz.func105, Tryz.ntmps105
 go_wp2_with fail
 obtain ⟨wa, hwa⟩ : ∃ V, V = w.setCell ⟨ba, 6, none⟩ (.int .i64 (T : Int)) := ⟨_, rfl⟩
 rw [<- hwa]
 have HAa : Hid (wa.rowIs ba 30 10 (fun i => (#[.slice (some ⟨bw, 0, none⟩) ws.length cw, .int .i64 sm, .int .i64 toh, .int .i64 (T : Int), .bool cyc, .int .i64 sn, .int .i64 (T : Int), .int .i64 cp, .int .i64 sr, .slice ar rs.length cr] : Array Value).getD i (.bool false))) := by
  show wa.rowIs ba 30 10 (fun i => (#[.slice (some ⟨bw, 0, none⟩) ws.length cw, .int .i64 sm, .int .i64 toh, .int .i64 (T : Int), .bool cyc, .int .i64 sn, .int .i64 (T : Int), .int .i64 cp, .int .i64 sr, .slice ar rs.length cr] : Array Value).getD i (.bool false))
  rw [hwa]
  refine (HA.out.set 6 _).congr fun i hi => ?_
  have hi2 : i = 0 \/ i = 1 \/ i = 2 \/ i = 3 \/ i = 4 \/ i = 5 \/ i = 6 \/ i = 7 \/ i = 8 \/ i = 9 := by omega
  rcases hi2 with rfl | rfl | rfl | rfl | rfl | rfl | rfl | rfl | rfl | rfl <;> rfl
 have HKa : Hid (Kp [ba] w wa) := by show Kp [ba] w wa; rw [hwa]; exact (Kp.refl _ _).setCell (p := ⟨ba, 6, none⟩) (.inl (by simp)) _
 have lba2 : ba < wa.heap.size := by rw [hwa]; simpa using lba
 clear hwa KA fa
 refine (ze0 _ _ _ _ _ _ _ _ _ _ _ _ _ _ _ (by omega) (by omega)).mono ?_
 rintro e w1 ⟨rfl, b1⟩
 have HA1 : Hid (w1.rowIs ba 30 10 (fun i => (#[.slice (some ⟨bw, 0, none⟩) ws.length cw, .int .i64 sm, .int .i64 toh, .int .i64 (T : Int), .bool cyc, .int .i64 sn, .int .i64 (T : Int), .int .i64 cp, .int .i64 sr, .slice ar rs.length cr] : Array Value).getD i (.bool false))) := HAa.out.of_block (b1.block _ lba2)
 have HK1 : Hid (Kp [ba] w w1) := HKa.out.next b1
 clear b1 HKa HAa
 have KA := zz HA1.out rfl
 have fa := HA1.out.frozen
 go_wp2_with fail
 obtain ⟨wb, hwb⟩ : ∃ V, V = w1.setCell ⟨ba, 2, none⟩ (.int .i64 (1 - toh)) := ⟨_, rfl⟩
 rw [<- hwb]
 have HAb : Hid (wb.rowIs ba 30 10 (fun i => (#[.slice (some ⟨bw, 0, none⟩) ws.length cw, .int .i64 sm, .int .i64 (1 - toh), .int .i64 (T : Int), .bool cyc, .int .i64 sn, .int .i64 (T : Int), .int .i64 cp, .int .i64 sr, .slice ar rs.length cr] : Array Value).getD i (.bool false))) := by
  show wb.rowIs ba 30 10 (fun i => (#[.slice (some ⟨bw, 0, none⟩) ws.length cw, .int .i64 sm, .int .i64 (1 - toh), .int .i64 (T : Int), .bool cyc, .int .i64 sn, .int .i64 (T : Int), .int .i64 cp, .int .i64 sr, .slice ar rs.length cr] : Array Value).getD i (.bool false))
  rw [hwb]
  refine (HA1.out.set 2 _).congr fun i hi => ?_
  have hi2 : i = 0 \/ i = 1 \/ i = 2 \/ i = 3 \/ i = 4 \/ i = 5 \/ i = 6 \/ i = 7 \/ i = 8 \/ i = 9 := by omega
  rcases hi2 with rfl | rfl | rfl | rfl | rfl | rfl | rfl | rfl | rfl | rfl <;> rfl
 have HKb : Hid (Kp [ba] w wb) := by show Kp [ba] w wb; rw [hwb]; exact HK1.out.setCell (p := ⟨ba, 2, none⟩) (.inl (by simp)) _
 have lba3 : ba < wb.heap.size := HAb.out.lt
 clear hwb KA fa HK1 HA1
 have KA := zz HAb.out rfl
 have fb := HAb.out.frozen
 go_cut [] from 18 to 28 (fun wc => wc.rowIs ba 30 10 (fun i => (#[.slice (some ⟨bw, 0, none⟩) ws.length cw, .int .i64 sm, .int .i64 (1 - toh), .int .i64 (S' : Int), .bool cyc, .int .i64 sn, .int .i64 (T : Int), .int .i64 cp, .int .i64 sr, .slice ar rs.length cr] : Array Value).getD i (.bool false)) /\ Kp [ba] wb wc)
 case first =>
  go_region_with (first | (go_at_call 139; refine (zc5 _ _ _ _ _ _ _ _ _ _ _ _ _ _ (1 - toh) (S' : Int) _ t0 t1 s0 s1 hS').mono ?_; rintro e w2 ⟨rfl, b2⟩; have b2' : Below wb.heap.size wb w2 := (Below.refl _ _).drew.trans b2; have KA2 := ze KA b2' lba3; have r2 := HAb.out.of_block (b2'.block _ lba3); have fa2 := r2.frozen; clear b2))
  all_goals
   go_wp2_with fail
   go_meet
   refine ⟨?_, (Kp.of_below b2').setCell (p := ⟨ba, 3, none⟩) (.inl (by simp)) _⟩
   refine (World.rowIs.set (HAb.out.of_block (b2'.block _ lba3)) 3 _).congr fun i hi => ?_
   have hi2 : i = 0 \/ i = 1 \/ i = 2 \/ i = 3 \/ i = 4 \/ i = 5 \/ i = 6 \/ i = 7 \/ i = 8 \/ i = 9 := by omega
   rcases hi2 with rfl | rfl | rfl | rfl | rfl | rfl | rfl | rfl | rfl | rfl <;> rfl
 case rest =>
  obtain ⟨hAc, hKc⟩ := hcut
  rename World => w3
  have HA3 : Hid (w3.rowIs ba 30 10 (fun i => (#[.slice (some ⟨bw, 0, none⟩) ws.length cw, .int .i64 sm, .int .i64 (1 - toh), .int .i64 (S' : Int), .bool cyc, .int .i64 sn, .int .i64 (T : Int), .int .i64 cp, .int .i64 sr, .slice ar rs.length cr] : Array Value).getD i (.bool false))) := hAc
  have HK3 : Hid (Kp [ba] w w3) := HKb.out.trans hKc
  clear hKc hAc KA fb HKb HAb lba2 lba3
  have KA := zz HA3.out rfl
  have fa := HA3.out.frozen
  go_wp2_with fail
  obtain ⟨w4, hw4⟩ : ∃ V, V = ((w3.setCell ⟨ba, 4, none⟩ (.bool true)).setCell ⟨ba, 5, none⟩ (.int .i64 (S' : Int))).setCell ⟨ba, 7, none⟩ (.int .i64 0) := ⟨_, rfl⟩
  rw [<- hw4]
  have HA4 : Hid (w4.rowIs ba 30 10 (fun i => (#[.slice (some ⟨bw, 0, none⟩) ws.length cw, .int .i64 sm, .int .i64 (1 - toh), .int .i64 (S' : Int), .bool true, .int .i64 (S' : Int), .int .i64 (T : Int), .int .i64 0, .int .i64 sr, .slice ar rs.length cr] : Array Value).getD i (.bool false))) := by
   show w4.rowIs ba 30 10 (fun i => (#[.slice (some ⟨bw, 0, none⟩) ws.length cw, .int .i64 sm, .int .i64 (1 - toh), .int .i64 (S' : Int), .bool true, .int .i64 (S' : Int), .int .i64 (T : Int), .int .i64 0, .int .i64 sr, .slice ar rs.length cr] : Array Value).getD i (.bool false))
   rw [hw4]
   refine (((HA3.out.set 4 _).set 5 _).set 7 _).congr fun i hi => ?_
   have hi2 : i = 0 \/ i = 1 \/ i = 2 \/ i = 3 \/ i = 4 \/ i = 5 \/ i = 6 \/ i = 7 \/ i = 8 \/ i = 9 := by omega
   rcases hi2 with rfl | rfl | rfl | rfl | rfl | rfl | rfl | rfl | rfl | rfl <;> rfl
  have HK4 : Hid (Kp [ba] w w4) := by show Kp [ba] w w4; rw [hw4]; exact ((HK3.out.setCell (p := ⟨ba, 4, none⟩) (.inl (by simp)) _).setCell (p := ⟨ba, 5, none⟩) (.inl (by simp)) _).setCell (p := ⟨ba, 7, none⟩) (.inl (by simp)) _
  clear hw4 KA fa HA3
  have HW4 : Hid (RwW w4 bw ws) := Rw.kp HW.out HK4.out (by simp; exact hab.symm)
  have HR4 : Hid (zdw w4 ar br rs.length y) := by
   show zdw w4 ar br rs.length y
   rcases HR.out with h | ⟨h, h'⟩
   · exact .inl h
   · exact .inr ⟨h, Rw.kp h' HK4.out (by simp; exact har.symm)⟩
  have HC0 : Hid (Cyc ⟨ws, S', 0⟩ S' E' S T S' 0 [] L) := HST.out.flip h1 h2 h3 h4
  clear HK3 HST
  go_loopw [47] (fun u47 wr => ∃ k : Nat, k <= rs.length /\ u47 = .int .i64 k /\ wr.rowIs ba 30 10 (fun i => (#[.slice (some ⟨bw, 0, none⟩) ws.length cw, .int .i64 sm, .int .i64 (1 - toh), .int .i64 ((zh S' ⟨ws, S', 0⟩ y k).1.T : Int), .bool true, .int .i64 (S' : Int), .int .i64 (T : Int), .int .i64 ((zh S' ⟨ws, S', 0⟩ y k).1.C : Int), .int .i64 sr, .slice ar rs.length cr] : Array Value).getD i (.bool false)) /\ RwW wr bw (zh S' ⟨ws, S', 0⟩ y k).1.ws /\ zdw wr ar br rs.length (zh S' ⟨ws, S', 0⟩ y k).2 /\ Kp [bw, br, ba] w wr) (fun u47 _ => rs.length - (intOf u47).toNat)
  case atStart => exact ⟨0, Nat.zero_le _, rfl, HA4.out, HW4.out, HR4.out, HK4.out.mono (fun x hx => by simp at hx; simp [hx])⟩
  case round =>
   obtain ⟨k, hk, rfl, hRA, hWr, hRr, hKr⟩ := hrel
   obtain ⟨M, hCk, _, hsame, hlen⟩ := HC0.out.roots HY.out k hk
   by_cases hlt : k < rs.length
   · have hlt' : (k : Int) < (rs.length : Int) := by omega
     obtain ⟨harr, hRk⟩ : ar = some ⟨br, 0, none⟩ /\ RwR wr br rs.length (zh S' ⟨ws, S', 0⟩ y k).2 := by
      rcases hRr with h | h
      · omega
      · exact h
     subst harr
     have hne : bw ≠ br := hne0 (by omega)
     have hCC := zin S' ⟨ws, S', 0⟩ y k
     have hsk := hsame k (Nat.le_refl _)
     have hm0 : isR ((zh S' ⟨ws, S', 0⟩ y k).2 (2 * k)) = true -> 0 <= (zh S' ⟨ws, S', 0⟩ y k).2 (2 * k + 1) /\ (((zh S' ⟨ws, S', 0⟩ y k).2 (2 * k + 1)).toNat ∈ ([] : List Nat) ++ M \/ ((zh S' ⟨ws, S', 0⟩ y k).2 (2 * k + 1)).toNat ∈ L) := fun g => by
      rw [hsk.1] at g
      rw [hsk.2]
      have := HY.out k hlt g
      exact ⟨this.1, .inr this.2⟩
     obtain ⟨wsk, Tk, Ck, yk, hek⟩ : ∃ wsk Tk Ck yk, zh S' ⟨ws, S', 0⟩ y k = (⟨wsk, Tk, Ck⟩, yk) := ⟨_, _, _, _, rfl⟩
     rw [hek] at hRA hWr hRk hCk hlen hCC hm0
     dsimp only at hRA hWr hRk hCk hlen hCC hm0
     obtain ⟨t, ht⟩ : ∃ t, t = yk (2 * k) := ⟨_, rfl⟩
     obtain ⟨m, hm⟩ : ∃ m, m = yk (2 * k + 1) := ⟨_, rfl⟩
     rw [<- ht, <- hm] at hm0
     obtain ⟨a2, ha2⟩ : ∃ a, a = zar S' ⟨wsk, Tk, Ck⟩ t m := ⟨_, rfl⟩
     obtain ⟨m2, hm2⟩ : ∃ m2, m2 = zbf S' ⟨wsk, Tk, Ck⟩ t m := ⟨_, rfl⟩
     have HEK : Hid (zh S' ⟨ws, S', 0⟩ y (k + 1) = (a2, zey yk k t m2)) := by
      show zh S' ⟨ws, S', 0⟩ y (k + 1) = (a2, zey yk k t m2)
      simp only [zh, hek, <- ht, <- hm, <- ha2, <- hm2]
     have hl2 : a2.ws.length = wsk.length := by rw [ha2]; exact (hCk.fwd_same hm0).1
     have HL2 : Hid (a2.ws.length = ws.length) := hl2.trans hlen
     have HTE := hCk.TE
     have HEE := hCk.hE
     have hsm := hCk.small
     dsimp only at HTE HEE hsm
     have HFW : Hid (∀ W, (W.rowIs ba 30 10 (fun i => (#[.slice (some ⟨bw, 0, none⟩) ws.length cw, .int .i64 sm, .int .i64 (1 - toh), .int .i64 (Tk : Int), .bool true, .int .i64 (S' : Int), .int .i64 (T : Int), .int .i64 (Ck : Int), .int .i64 sr, .slice (some ⟨br, 0, none⟩) rs.length cr] : Array Value).getD i (.bool false))) -> RwW W bw wsk -> Calls Tryz.prog 150 #[.pointer (some ⟨ba, 0, none⟩), .agg #[.int .i64 t, .int .i64 m]] W fun e w' => e = .returned (.agg #[.int .i64 t, .int .i64 m2]) /\ w'.rowIs ba 30 10 (fun i => (#[.slice (some ⟨bw, 0, none⟩) ws.length cw, .int .i64 sm, .int .i64 (1 - toh), .int .i64 (a2.T : Int), .bool true, .int .i64 (S' : Int), .int .i64 (T : Int), .int .i64 (a2.C : Int), .int .i64 sr, .slice (some ⟨br, 0, none⟩) rs.length cr] : Array Value).getD i (.bool false)) /\ RwW w' bw a2.ws /\ Kp [ba, bw] W w') := fun W hA' hW' => by
      rw [ha2, hm2, <- hlen]
      rw [<- hlen] at hA'
      exact zo9 ba bw cw wsk sm (1 - toh) Tk true (S' : Int) (T : Int) Ck sr (some ⟨br, 0, none⟩) cr rs t m W hA' hW' hab (by omega) hCk HH.out hm0 (by omega)
     have lbr := hRk.lt
     have lba4 := hRA.lt
     have lbw4 := hWr.lt
     have x0 : wr.cell? ⟨br, k * 2, none⟩ = some (.int .i64 t) := by rw [ht, Nat.mul_comm]; exact hRk.cell (i := 2 * k) (by omega)
     have x1 : wr.cell? ⟨br, k * 2 + 1, none⟩ = some (.int .i64 m) := by rw [hm, Nat.mul_comm]; exact hRk.cell (i := 2 * k + 1) (by omega)
     have HRA5 : Hid (wr.rowIs ba 30 10 (fun i => (#[.slice (some ⟨bw, 0, none⟩) ws.length cw, .int .i64 sm, .int .i64 (1 - toh), .int .i64 (Tk : Int), .bool true, .int .i64 (S' : Int), .int .i64 (T : Int), .int .i64 (Ck : Int), .int .i64 sr, .slice (some ⟨br, 0, none⟩) rs.length cr] : Array Value).getD i (.bool false))) := hRA
     have HWR : Hid (RwW wr bw wsk) := hWr
     have HRK : Hid (RwR wr br rs.length yk) := hRk
     have HKR : Hid (Kp [bw, br, ba] w wr) := hKr
     clear hRA hWr hRk hRr hKr hm0 hCC hsame hsk hCk hek ha2 hm2 ht hm HC0 HA4 HR4 hlen hl2 HW4 HK4
     go_upto_region 7 with fail
     obtain ⟨wv, hwv⟩ : ∃ V, V = wr.alloc (.cells #[.int .i64 t, .int .i64 m] 50) := ⟨_, rfl⟩
     rw [<- hwv]
     have bv : Below wr.heap.size wr wv := by rw [hwv]; exact (Below.refl _ _).alloc (Nat.le_refl _) _
     have rv : wv.rowIs wr.heap.size 50 2 (fun i => (#[.int .i64 t, .int .i64 m] : Array Value).getD i (.bool false)) := by rw [hwv]; exact zdg rfl
     have HAV : Hid (wv.rowIs ba 30 10 (fun i => (#[.slice (some ⟨bw, 0, none⟩) ws.length cw, .int .i64 sm, .int .i64 (1 - toh), .int .i64 (Tk : Int), .bool true, .int .i64 (S' : Int), .int .i64 (T : Int), .int .i64 (Ck : Int), .int .i64 sr, .slice (some ⟨br, 0, none⟩) rs.length cr] : Array Value).getD i (.bool false))) := HRA5.out.of_block (bv.block _ lba4)
     have HWV : Hid (RwW wv bw wsk) := Rw.below HWR.out bv
     have HRV : Hid (RwR wv br rs.length yk) := Rw.below HRK.out bv
     have HKV : Hid (Kp [bw, br, ba] w wv) := HKR.out.next bv
     have zv : wr.heap.size < wv.heap.size := rv.lt
     have HRVV : Hid (wv.rowIs wr.heap.size 50 2 (fun i => (#[.int .i64 t, .int .i64 m] : Array Value).getD i (.bool false))) := rv
     have c9 : wv.cell? ⟨ba, 9, none⟩ = some (.slice (some ⟨br, 0, none⟩) rs.length cr) := HAV.out.cell (i := 9) (by omega)
     have cv := zz rv rfl
     clear hwv bv rv HRA5 HWR HRK HKR x0 x1
     refine wp_region_held_drew (S := fun V => V.cell? ⟨ba, 9, none⟩ = some (.slice (some ⟨br, 0, none⟩) rs.length cr) /\ (∀ i, V.cell? ⟨wr.heap.size, i, none⟩ = (#[.int .i64 t, .int .i64 m] : Array Value)[i]?)) (by kernel_rfl) ⟨c9, cv⟩ (fun hHeld => ?_)
     refine wpAnyH_take (i := 0) (oi := { dst := some 52, op := _, type := _, pos := _, after := _, guard := _ }) (v := .pointer (some ⟨ba, 0, none⟩)) rfl (by kernel_rfl) (by kernel_rfl) (by kernel_rfl) (fun _ _ _ h => h) (Or.inl ⟨by kernel_rfl, ?_⟩) hHeld ?_
     · intro w hSw
       (try dsimp only at hSw)
       go_simp
     try simp only [Act.put, zvy, zvz, zv0]
     refine wpAnyH_take (i := 1) (oi := { dst := some 53, op := _, type := _, pos := _, after := _, guard := _ }) (v := .pointer (some ⟨ba, 0, none⟩)) rfl (by kernel_rfl) (by kernel_rfl) (by kernel_rfl) (fun _ _ _ h => h) (Or.inl ⟨by kernel_rfl, ?_⟩) hHeld ?_
     · intro w hSw
       (try dsimp only at hSw)
       go_simp
     try simp only [Act.put, zvy, zvz, zv0]
     refine wpAnyH_take (i := 2) (oi := { dst := some 54, op := _, type := _, pos := _, after := _, guard := _ }) (v := .pointer (some ⟨ba, 9, none⟩)) rfl (by kernel_rfl) (by kernel_rfl) (by kernel_rfl) (fun _ _ _ h => h) (Or.inl ⟨by kernel_rfl, ?_⟩) hHeld ?_
     · intro w hSw
       (try dsimp only at hSw)
       go_simp
     try simp only [Act.put, zvy, zvz, zv0]
     refine wpAnyH_take (i := 3) (oi := { dst := some 55, op := _, type := _, pos := _, after := _, guard := _ }) (v := .slice (some ⟨br, 0, none⟩) rs.length cr) rfl (by kernel_rfl) (by kernel_rfl) (by kernel_rfl) (fun _ _ _ h => h) (Or.inl ⟨by kernel_rfl, ?_⟩) hHeld ?_
     · intro w hSw
       (try dsimp only at hSw)
       go_simp
     try simp only [Act.put, zvy, zvz, zv0]
     refine wpAnyH_take (i := 4) (oi := { dst := some 56, op := _, type := _, pos := _, after := _, guard := _ }) (v := .int .i64 k) rfl (by kernel_rfl) (by kernel_rfl) (by kernel_rfl) (fun _ _ _ h => h) (Or.inl ⟨by kernel_rfl, ?_⟩) hHeld ?_
     · intro w hSw
       (try dsimp only at hSw)
       go_simp
     try simp only [Act.put, zvy, zvz, zv0]
     refine wpAnyH_take (i := 5) (oi := { dst := some 57, op := _, type := _, pos := _, after := _, guard := _ }) (v := .pointer (some ⟨ba, 0, none⟩)) rfl (by kernel_rfl) (by kernel_rfl) (by kernel_rfl) (fun _ _ _ h => h) (Or.inl ⟨by kernel_rfl, ?_⟩) hHeld ?_
     · intro w hSw
       (try dsimp only at hSw)
       go_simp
     try simp only [Act.put, zvy, zvz, zv0]
     refine wpAnyH_take (i := 6) (oi := { dst := some 58, op := _, type := _, pos := _, after := _, guard := _ }) (v := .agg #[.int .i64 t, .int .i64 m]) rfl (by kernel_rfl) (by kernel_rfl) (by kernel_rfl) (fun _ _ _ h => h) (Or.inl ⟨by kernel_rfl, ?_⟩) hHeld ?_
     · intro w hSw
       (try dsimp only at hSw)
       go_simp
     try simp only [Act.put, zvy, zvz, zv0]
     refine wpAnyH_ready (rs := [7]) (by kernel_rfl) (by simp) ?_
     refine AllReadyH.cons (o := { dst := some 59, op := _, type := _, pos := _, after := _, guard := _ }) rfl (fun K hK => ?_) AllReadyH.nil
     go_simp
     go_at_call 150
     refine (HFW.out _ HAV.out.drew (Rw.drew HWV.out)).mono ?_
     rintro e wf ⟨rfl, hAf, hWf, hKf⟩
     have HAF : Hid (wf.rowIs ba 30 10 (fun i => (#[.slice (some ⟨bw, 0, none⟩) ws.length cw, .int .i64 sm, .int .i64 (1 - toh), .int .i64 (a2.T : Int), .bool true, .int .i64 (S' : Int), .int .i64 (T : Int), .int .i64 (a2.C : Int), .int .i64 sr, .slice (some ⟨br, 0, none⟩) rs.length cr] : Array Value).getD i (.bool false))) := hAf
     have HWF : Hid (RwW wf bw a2.ws) := hWf
     have HRF : Hid (RwR wf br rs.length yk) := Rw.kp (Rw.drew HRV.out) hKf (by simp; exact ⟨har.symm, hne.symm⟩)
     have HKF : Hid (Kp [bw, br, ba] w wf) := HKV.out.drew.trans (hKf.mono (fun x hx => by simp at hx; rcases hx with h | h <;> simp [h]))
     have c9f : wf.cell? ⟨ba, 9, none⟩ = some (.slice (some ⟨br, 0, none⟩) rs.length cr) := hAf.cell (i := 9) (by omega)
     have cvf := zz (World.rowIs.of_block (w := wv.drew) (w' := wf) HRVV.out.drew (hKf.block _ zv (by simp; omega))) rfl
     clear hHeld
     refine hK.out _ _ ⟨c9f, cvf⟩ (fun hHeld => ?_)
     clear hK K hAf hWf hKf c9 cv HAV HWV HRV HKV HRVV
     try simp only [Act.put, zvy, zvz, zv0]
     refine wpAnyH_take (i := 8) (oi := { dst := some 60, op := _, type := _, pos := _, after := _, guard := _ }) (v := .pointer (some ⟨br, k * 2, none⟩)) rfl (by kernel_rfl) (by kernel_rfl) (by kernel_rfl) (fun _ _ _ h => h) (Or.inl ⟨by kernel_rfl, ?_⟩) hHeld ?_
     · intro w hSw
       (try dsimp only at hSw)
       go_simp
     try simp only [Act.put, zvy, zvz, zv0]
     have y0 := HRF.out.cell (i := k * 2) (by omega)
     have y1 := HRF.out.cell (i := k * 2 + 1) (by omega)
     have fbr := HRF.out.frozen
     refine wpAnyH_ready (rs := [9]) (by kernel_rfl) (by simp) ?_
     refine AllReadyH.cons (o := { dst := none, op := _, type := _, pos := _, after := _, guard := _ }) rfl (fun K hK => ?_) AllReadyH.nil
     go_simp
     clear hHeld
     have c9g : ((wf.setCell ⟨br, k * 2, none⟩ (.int .i64 t)).setCell ⟨br, k * 2 + 1, none⟩ (.int .i64 m2)).cell? ⟨ba, 9, none⟩ = some (.slice (some ⟨br, 0, none⟩) rs.length cr) := ((HAF.out.setOther (a := ⟨br, k * 2, none⟩) har _).setOther (a := ⟨br, k * 2 + 1, none⟩) har _).cell (i := 9) (by omega)
     have cvg : ∀ i, ((wf.setCell ⟨br, k * 2, none⟩ (.int .i64 t)).setCell ⟨br, k * 2 + 1, none⟩ (.int .i64 m2)).cell? ⟨wr.heap.size, i, none⟩ = (#[.int .i64 t, .int .i64 m] : Array Value)[i]? := fun i => by
      rw [World.cell?_of_block (w := wf) ((Below.heap_setCell _ _ _ _ (by show wr.heap.size ≠ br; omega)).trans (Below.heap_setCell _ _ _ _ (by show wr.heap.size ≠ br; omega)))]
      exact cvf i
     refine hK.out _ _ ⟨c9g, cvg⟩ (fun hHeld => ?_)
     clear hK K hHeld c9f cvf c9g cvg
     try simp only [Act.put, zvy, zvz, zv0]
     refine wpAnyH_done (by kernel_rfl) ?_ _
     go_wp2
     refine ⟨⟨k + 1, hlt, by go_num, ?_, ?_, ?_, ?_⟩, by simp [intOf]; omega⟩
     · rw [HEK.out]
       exact (HAF.out.setOther (a := ⟨br, k * 2, none⟩) har _).setOther (a := ⟨br, k * 2 + 1, none⟩) har _
     · rw [HEK.out]
       exact Rw.other (Rw.other HWF.out (p := ⟨br, k * 2, none⟩) hne _) (p := ⟨br, k * 2 + 1, none⟩) hne _
     · rw [HEK.out]
       exact .inr ⟨rfl, zkt HRF.out⟩
     · exact (HKF.out.setCell (p := ⟨br, k * 2, none⟩) (.inl (by simp)) _).setCell (p := ⟨br, k * 2 + 1, none⟩) (.inl (by simp)) _
   · obtain rfl : k = rs.length := by omega
     have hge : ¬ (rs.length : Int) < (rs.length : Int) := by omega
     have HKF : Hid (Kp [bw, br, ba] w wr) := hKr
     have HWr : Hid (RwW wr bw (zh S' ⟨ws, S', 0⟩ y rs.length).1.ws) := hWr
     have HRr : Hid (zdw wr ar br rs.length (zh S' ⟨ws, S', 0⟩ y rs.length).2) := hRr
     have lba5 := hRA.lt
     have lbw5 := hWr.lt
     have lbr5 : br < wr.heap.size := Nat.lt_of_lt_of_le hbr hKr.size
     obtain ⟨R, hRR⟩ : ∃ R, R = zh S' ⟨ws, S', 0⟩ y rs.length := ⟨_, rfl⟩
     rw [<- hRR] at HWr HRr hRA
     have HRR : Hid (R = zh S' ⟨ws, S', 0⟩ y rs.length) := hRR
     have HRA : Hid (wr.rowIs ba 30 10 (fun i => (#[.slice (some ⟨bw, 0, none⟩) ws.length cw, .int .i64 sm, .int .i64 (1 - toh), .int .i64 (R.1.T : Int), .bool true, .int .i64 (S' : Int), .int .i64 (T : Int), .int .i64 (R.1.C : Int), .int .i64 sr, .slice ar rs.length cr] : Array Value).getD i (.bool false))) := hRA
     clear hRR hKr hWr hRr hCk hsame hlen HC0 HA4 HR4 HW4 HK4 hRA
     by_cases hov : R.1.T = S'
     · have HOV : Hid (R.1.T = S') := hov
       have HRB : Hid (wr.rowIs ba 30 10 (fun i => (#[.slice (some ⟨bw, 0, none⟩) ws.length cw, .int .i64 sm, .int .i64 (1 - toh), .int .i64 (S' : Int), .bool true, .int .i64 (S' : Int), .int .i64 (T : Int), .int .i64 (R.1.C : Int), .int .i64 sr, .slice ar rs.length cr] : Array Value).getD i (.bool false))) := by have h := HRA.out; rw [hov] at h; exact h
       clear hov
       go_wp2_with fail
       refine (zll ba bw cw ws sm (1 - toh) (S' : Int) (T : Int) (R.1.C : Int) sr ar cr rs _ HRB.out).mono ?_
       rintro e w6 ⟨rfl, hA6, hK6⟩
       have HA6 : Hid (w6.rowIs ba 30 10 (fun i => (#[.slice (some ⟨bw, 0, none⟩) ws.length cw, .int .i64 sm, .int .i64 (1 - toh), .int .i64 (S' : Int), .bool false, .int .i64 0, .int .i64 0, .int .i64 0, .int .i64 sr, .slice ar rs.length cr] : Array Value).getD i (.bool false))) := hA6
       have HK6 : Hid (Kp [ba] wr w6) := hK6
       clear hA6 hK6
       go_wp2
       go_end0
       refine ⟨rfl, ?_, ?_, ?_, HKF.out.trans (HK6.out.mono (fun x hx => by simp at hx; simp [hx]))⟩
       · rw [<- HRR.out]
         have e1 : ovB S' R.1.T = false := by simp [ovB, HOV.out]
         have e2 : ∀ x, ovI S' R.1.T x = 0 := fun x => by simp [ovI, HOV.out]
         rw [e1, e2, e2, e2, HOV.out]
         exact HA6.out
       · rw [<- HRR.out]
         exact Rw.kp HWr.out HK6.out (by simp; exact hab.symm)
       · rw [<- HRR.out]
         rcases HRr.out with h | ⟨h, h'⟩
         · exact .inl h
         · exact .inr ⟨h, Rw.kp h' HK6.out (by simp; exact har.symm)⟩
     · have HOV : Hid (¬ R.1.T = S') := hov
       clear hov
       go_wp2_with fail
       refine (znp ba bw cw ws sm (1 - toh) (R.1.T : Int) true (S' : Int) (T : Int) (R.1.C : Int) sr ar cr rs _ HRA.out (by intro g; exact HOV.out (by have := g.2; omega))).mono ?_
       rintro e w6 ⟨rfl, b6⟩
       have HB6 : Hid (Below wr.heap.size wr w6) := b6
       clear b6
       go_wp2
       go_end0
       refine ⟨rfl, ?_, ?_, ?_, HKF.out.next HB6.out⟩
       · rw [<- HRR.out]
         have e1 : ovB S' R.1.T = true := by simp [ovB, HOV.out]
         have e2 : ∀ x, ovI S' R.1.T x = x := fun x => by simp [ovI, HOV.out]
         rw [e1, e2, e2, e2]
         exact HRA.out.of_block (HB6.out.block _ lba5)
       · rw [<- HRR.out]
         exact Rw.below HWr.out HB6.out
       · rw [<- HRR.out]
         rcases HRr.out with h | ⟨h, h'⟩
         · exact .inl h
         · exact .inr ⟨h, Rw.below h' HB6.out⟩
end Go.Proofs.YtaapiedminakcaaGreat
