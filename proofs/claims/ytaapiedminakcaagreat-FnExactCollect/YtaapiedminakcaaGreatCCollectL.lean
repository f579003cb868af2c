/- - -/
import Derived.Test.YtaapiedminakcaaGreatCFinishL
namespace Go.Proofs.YtaapiedminakcaaGreat
set_option maxRecDepth 20000
open Go.RowKit
set_option linter.unusedSimpArgs false
set_option linter.unusedVariables false
def Fin (ws : List Int) (sm toh top : Int) (cyc : Bool) (sn old cp : Int) (ws1 : List Int) (T1 n : Nat) : Prop :=
 (cyc = true /\ ∃ (S E F Od sc T C : Nat) (L O : List Nat), top = T /\ sn = sc /\ cp = C /\ Cyc ⟨ws, T, C⟩ S E F Od sc 0 L O /\ zat sm toh S E F Od /\ C <= T + 8000 /\ E <= 8000 /\ ws1 = (zbq S E ⟨ws, T, C⟩ sc 0).1.ws /\ T1 = (zbq S E ⟨ws, T, C⟩ sc 0).1.T /\ n = (zbq S E ⟨ws, T, C⟩ sc 0).2) \/
 (cyc = false /\ top = T1 /\ sn = 0 /\ old = 0 /\ cp = 0 /\ ws1 = ws /\ n = 0)
theorem Fin.len {ws : List Int} {sm toh top : Int} {cyc : Bool} {sn old cp : Int} {ws1 : List Int} {T1 n : Nat} (h : Fin ws sm toh top cyc sn old cp ws1 T1 n) : ws1.length = ws.length := by
 rcases h with ⟨_, S, E, F, Od, sc, T, C, L, O, _, _, _, hC, _, _, _, rfl, _, _⟩ | ⟨_, _, _, _, _, rfl, _⟩
 · obtain ⟨_, _, hl, _⟩ := hC.run E 0 (by omega)
   exact hl
 · rfl
theorem zt7 {ws1 : List Int} {sm toh : Int} {S T1 E S' E' : Nat} {L : List Nat} {y : Nat -> Int} {rl : Nat} (hSt : zc9 ws1 S T1 E L) (hy : zbj y rl L) (hH : zat sm (1 - toh) S' E' S T1) (h1 : E' <= S \/ T1 <= S') (h2 : S' + (T1 - S) <= E') (h3 : E' <= ws1.length) (h4 : 1 <= S') :
 ∃ ws3 T3 n3, Fin (zg S' ⟨ws1, S', 0⟩ y rl).1.ws sm (1 - toh) ((zg S' ⟨ws1, S', 0⟩ y rl).1.T : Int) (ovB S' (zg S' ⟨ws1, S', 0⟩ y rl).1.T) (ovI S' (zg S' ⟨ws1, S', 0⟩ y rl).1.T (S' : Int)) (ovI S' (zg S' ⟨ws1, S', 0⟩ y rl).1.T (T1 : Int)) (ovI S' (zg S' ⟨ws1, S', 0⟩ y rl).1.T ((zg S' ⟨ws1, S', 0⟩ y rl).1.C : Int)) ws3 T3 n3 /\ (zg S' ⟨ws1, S', 0⟩ y rl).1.ws.length = ws1.length := by
 obtain ⟨M, hc, _, _, hl⟩ := (hSt.flip h1 h2 h3 h4).roots hy rl (Nat.le_refl _)
 have hCC := zhb S' ⟨ws1, S', 0⟩ y rl
 simp only [] at hCC hl
 generalize zg S' ⟨ws1, S', 0⟩ y rl = N at hc hCC hl ⊢
 have e8 : E' <= 8000 := by
  have a := hH.hE
  have b := hH.s1
  have c := hH.t0
  have d := hH.t1
  have s0 := hH.s0
  have h : (1 - toh) = 0 \/ (1 - toh) = 1 := by omega
  rcases h with h | h <;> rw [h] at a <;> omega
 by_cases e : N.1.T = S'
 · refine ⟨N.1.ws, N.1.T, 0, .inr ⟨?_, rfl, ?_, ?_, ?_, rfl, rfl⟩, hl⟩
   · simp [ovB, e]
   · simp [ovI, e]
   · simp [ovI, e]
   · simp [ovI, e]
 · exact ⟨_, _, _, .inl ⟨by simp [ovB, e], S', E', S, T1, S', N.1.T, N.1.C, [] ++ M, L, rfl, by simp [ovI, e], by simp [ovI, e], hc, hH, by omega, e8, rfl, rfl, rfl⟩, hl⟩
theorem zbj.more {y : Nat -> Int} {k : Nat} {L : List Nat} (h : zbj y k L) (M : List Nat) : zbj y k (L ++ M) := fun i hi hr => ⟨(h i hi hr).1, List.mem_append_left _ (h i hi hr).2⟩
theorem zwm {ws : List Int} {sm toh top : Int} {cyc : Bool} {sn old cp sr : Int} {y : Nat -> Int} {rl : Nat} (hw : zh ws) (hok : zdk ws sm toh top cyc sn old cp sr y rl) :
 ∃ (ws1 : List Int) (T1 n1 S E S' E' : Nat) (L : List Nat), Fin ws sm toh top cyc sn old cp ws1 T1 n1 /\ zc9 ws1 S T1 E L /\ zbj y rl L /\ zat sm (1 - toh) S' E' S T1 /\ (E' <= S \/ T1 <= S') /\ S' + (T1 - S) <= E' /\ E' <= ws1.length /\ 1 <= S' /\ rl <= 24 /\ 0 < ws.length := by
 cases cyc with
 | false =>
   obtain ⟨S, T, E, S', E', L, hT, hSt, hy, hH, h1, h2, h3, h4, hrl, g6, _⟩ := zpn hw hok
   have h5 : sn = 0 /\ old = 0 /\ cp = 0 := by
    have := hok.1
    unfold zcj at this
    simp [zf9] at this
    omega
   exact ⟨ws, T, 0, S, E, S', E', L, .inr ⟨rfl, hT, h5.1, h5.2.1, h5.2.2, rfl, rfl⟩, hSt, hy, hH, h1, h2, h3, h4, hrl, g6⟩
 | true =>
   obtain ⟨S, T, E, F, Od, sc, C, L, O, hT, hsc, hO, hcp, hC, hy, hH, hCT, hE8, g6⟩ := zp8 hw hok
   obtain ⟨M, hCR, hlen, _⟩ := hC.run E 0 (by omega)
   have hSt := hCR.still
   obtain ⟨s0, s1, hl, t0, t1, hrl, _, _, _⟩ := zec hok.1
   have hTE := hSt.hT
   have hST : S <= (zbq S E ⟨ws, T, C⟩ sc 0).1.T := hCR.ST
   have a := hH.hS
   have b := hH.hE
   have c := hH.hF
   simp only [] at hlen
   have hc : toh = 0 \/ toh = 1 := by omega
   obtain ⟨N, rfl⟩ := Int.eq_ofNat_of_zero_le (a := sm) (by omega)
   refine ⟨_, _, _, S, E, F, (if toh = 0 then 2 * N else N), L ++ M, .inl ⟨rfl, S, E, F, Od, sc, T, C, L, O, hT, hsc, hcp, hC, hH, hCT, hE8, rfl, rfl, rfl⟩, hSt, hy.more M, ?_, ?_, ?_, ?_, ?_, hrl, g6⟩
   · rcases hc with rfl | rfl
     · exact ⟨s0, s1, by omega, by omega, by omega, by first | (simp; done) | (simp; omega), by omega, by omega⟩
     · exact ⟨s0, s1, by omega, by omega, by omega, by simp, by omega, by omega⟩
   · rcases hc with rfl | rfl
     · right; omega
     · left; simp; omega
   · rcases hc with rfl | rfl
     · simp; omega
     · simp; omega
   · rw [hlen]
     rcases hc with rfl | rfl
     · simp; omega
     · simp; omega
   · rcases hc with rfl | rfl <;> omega
theorem zjr {w w' : World} {ar : Option Addr} {br n : Nat} {y : Nat -> Int} {X : List Nat} (h : zbm w ar br n y) (k : Kp X w w') (hn : 0 < n -> br ∉ X) : zbm w' ar br n y := by
 rcases h with h | ⟨h, h'⟩
 · exact .inl h
 · by_cases hm : 0 < n
   · exact .inr ⟨h, Rw.kp h' k (hn hm)⟩
   · exact .inl (by omega)
theorem zfj {w w' : World} {ar : Option Addr} {br n : Nat} {y : Nat -> Int} (h : zbm w ar br n y) (k : 0 < n -> w'.heap[br]? = w.heap[br]?) : zbm w' ar br n y := by
 rcases h with h | ⟨h, h'⟩
 · exact .inl h
 · by_cases hm : 0 < n
   · exact .inr ⟨h, Rw.of_block h' (k hm)⟩
   · exact .inl (by omega)
theorem zpp (w : World) (A Z : Array Value) {n : Nat} (hA : A.size = n) (hZ : Z.size = n) : ((w.alloc (.cells A 30)).alloc (.cells Z 30)).rowIs w.heap.size 30 n (fun i => A.getD i (.bool false)) /\ ((w.alloc (.cells A 30)).alloc (.cells Z 30)).rowIs (w.heap.size + 1) 30 n (fun i => Z.getD i (.bool false)) :=
 zdi (w := w) (Below.refl (w.heap.size + 2) _) (by omega) hA hZ
theorem zhx (bw cw : Nat) (ws : List Int) (sm toh top : Int) (cyc : Bool) (sn old cp sr : Int) (ar : Option Addr) (cr : Nat) (rs : List (Int × Int)) (ws1 : List Int) (T1 n1 : Nat) (w : World) (hW : RwW w bw ws) (h : Fin ws sm toh top cyc sn old cp ws1 T1 n1) :
 Calls Tryz.prog 106 #[.agg #[.slice (some ⟨bw, 0, none⟩) ws.length cw, .int .i64 sm, .int .i64 toh, .int .i64 top, .bool cyc, .int .i64 sn, .int .i64 old, .int .i64 cp, .int .i64 sr, .slice ar rs.length cr]] w fun e w' => e = .returned (.tuple #[.agg #[.slice (some ⟨bw, 0, none⟩) ws.length cw, .int .i64 sm, .int .i64 toh, .int .i64 (T1 : Int), .bool false, .int .i64 0, .int .i64 0, .int .i64 0, .int .i64 sr, .slice ar rs.length cr], .int .i64 (n1 : Int)]) /\ RwW w' bw ws1 /\ Kp [bw] w w' := by
 rcases h with ⟨rfl, S, E, F, Od, sc, T, C, L, O, rfl, rfl, rfl, hC, hH, hCT, hE8, rfl, rfl, rfl⟩ | ⟨rfl, rfl, rfl, rfl, rfl, rfl, rfl⟩
 · exact zmd bw cw ws sm toh 0 0 old 0 sr ar cr rs w hW hC hH hCT hE8 rfl
 · refine (zog bw cw ws1 sm toh _ _ _ _ sr ar cr rs w).mono ?_
   rintro e w' ⟨rfl, b⟩
   exact ⟨rfl, Rw.of_block hW (b.block _ hW.lt), Kp.of_below b⟩
set_option maxHeartbeats 2000000 in
theorem zl9 (bw cw : Nat) (ws : List Int) (sm toh top : Int) (cyc : Bool) (sn old cp sr : Int) (ar : Option Addr) (cr : Nat) (rs : List (Int × Int)) (ws1 : List Int) (T1 n1 : Nat) (br : Nat) (y : Nat -> Int) (w : World) {S E S' E' : Nat} {L : List Nat} {ws3 : List Int} {T3 n3 : Nat} (hW : RwW w bw ws) (hR : zbm w ar br rs.length y) (hbr : br < w.heap.size) (hne0 : 0 < rs.length -> bw ≠ br) (h : Fin ws sm toh top cyc sn old cp ws1 T1 n1) (hSt : zc9 ws1 S T1 E L) (hy : zbj y rs.length L) (hH : zat sm (1 - toh) S' E' S T1) (h1 : E' <= S \/ T1 <= S') (h2 : S' + (T1 - S) <= E') (h3 : E' <= ws1.length) (h4 : 1 <= S') (hrl : rs.length <= 24) (hF : Fin (zg S' ⟨ws1, S', 0⟩ y rs.length).1.ws sm (1 - toh) ((zg S' ⟨ws1, S', 0⟩ y rs.length).1.T : Int) (ovB S' (zg S' ⟨ws1, S', 0⟩ y rs.length).1.T) (ovI S' (zg S' ⟨ws1, S', 0⟩ y rs.length).1.T (S' : Int)) (ovI S' (zg S' ⟨ws1, S', 0⟩ y rs.length).1.T (T1 : Int)) (ovI S' (zg S' ⟨ws1, S', 0⟩ y rs.length).1.T ((zg S' ⟨ws1, S', 0⟩ y rs.length).1.C : Int)) ws3 T3 n3) (hlN : (zg S' ⟨ws1, S', 0⟩ y rs.length).1.ws.length = ws1.length) :
 Calls Tryz.prog 108 #[.agg #[.slice (some ⟨bw, 0, none⟩) ws.length cw, .int .i64 sm, .int .i64 toh, .int .i64 top, .bool cyc, .int .i64 sn, .int .i64 old, .int .i64 cp, .int .i64 sr, .slice ar rs.length cr]] w fun e w' => e = .returned (.agg #[.slice (some ⟨bw, 0, none⟩) ws.length cw, .int .i64 sm, .int .i64 (1 - toh), .int .i64 (T3 : Int), .bool false, .int .i64 0, .int .i64 0, .int .i64 0, .int .i64 sr, .slice ar rs.length cr]) /\ RwW w' bw ws3 /\ zbm w' ar br rs.length (zg S' ⟨ws1, S', 0⟩ y rs.length).2 /\ Kp [bw, br] w w' := by
 have hl1 := h.len
 have hbw := hW.lt
 have HF1 : Hid (∀ W, RwW W bw ws -> Calls Tryz.prog 106 #[.agg #[.slice (some ⟨bw, 0, none⟩) ws.length cw, .int .i64 sm, .int .i64 toh, .int .i64 top, .bool cyc, .int .i64 sn, .int .i64 old, .int .i64 cp, .int .i64 sr, .slice ar rs.length cr]] W fun e w' => e = .returned (.tuple #[.agg #[.slice (some ⟨bw, 0, none⟩) ws.length cw, .int .i64 sm, .int .i64 toh, .int .i64 (T1 : Int), .bool false, .int .i64 0, .int .i64 0, .int .i64 0, .int .i64 sr, .slice ar rs.length cr], .int .i64 (n1 : Int)]) /\ RwW w' bw ws1 /\ Kp [bw] W w') := fun W hW => zhx bw cw ws sm toh top cyc sn old cp sr ar cr rs ws1 T1 n1 W hW h
 have HF2 : Hid (∀ W, RwW W bw ws1 -> zbm W ar br rs.length y -> br < W.heap.size -> Calls Tryz.prog 104 #[.agg #[.slice (some ⟨bw, 0, none⟩) ws.length cw, .int .i64 sm, .int .i64 toh, .int .i64 (T1 : Int), .bool false, .int .i64 0, .int .i64 0, .int .i64 0, .int .i64 sr, .slice ar rs.length cr]] W fun e w' => e = .returned (.agg #[.slice (some ⟨bw, 0, none⟩) ws.length cw, .int .i64 sm, .int .i64 (1 - toh), .int .i64 ((zg S' ⟨ws1, S', 0⟩ y rs.length).1.T : Int), .bool (ovB S' (zg S' ⟨ws1, S', 0⟩ y rs.length).1.T), .int .i64 (ovI S' (zg S' ⟨ws1, S', 0⟩ y rs.length).1.T (S' : Int)), .int .i64 (ovI S' (zg S' ⟨ws1, S', 0⟩ y rs.length).1.T (T1 : Int)), .int .i64 (ovI S' (zg S' ⟨ws1, S', 0⟩ y rs.length).1.T ((zg S' ⟨ws1, S', 0⟩ y rs.length).1.C : Int)), .int .i64 sr, .slice ar rs.length cr]) /\ RwW w' bw (zg S' ⟨ws1, S', 0⟩ y rs.length).1.ws /\ zbm w' ar br rs.length (zg S' ⟨ws1, S', 0⟩ y rs.length).2 /\ Kp [bw, br] W w') := fun W hW hR hb => by
  have := zsi bw cw br ws1 sm toh T1 false 0 0 0 sr ar cr rs y W hW hR hb hne0 hSt hy hH h1 h2 h3 h4 hrl
  rw [hl1] at this
  exact this
 have HF3 : Hid (∀ W, RwW W bw (zg S' ⟨ws1, S', 0⟩ y rs.length).1.ws -> Calls Tryz.prog 106 #[.agg #[.slice (some ⟨bw, 0, none⟩) ws.length cw, .int .i64 sm, .int .i64 (1 - toh), .int .i64 ((zg S' ⟨ws1, S', 0⟩ y rs.length).1.T : Int), .bool (ovB S' (zg S' ⟨ws1, S', 0⟩ y rs.length).1.T), .int .i64 (ovI S' (zg S' ⟨ws1, S', 0⟩ y rs.length).1.T (S' : Int)), .int .i64 (ovI S' (zg S' ⟨ws1, S', 0⟩ y rs.length).1.T (T1 : Int)), .int .i64 (ovI S' (zg S' ⟨ws1, S', 0⟩ y rs.length).1.T ((zg S' ⟨ws1, S', 0⟩ y rs.length).1.C : Int)), .int .i64 sr, .slice ar rs.length cr]] W fun e w' => e = .returned (.tuple #[.agg #[.slice (some ⟨bw, 0, none⟩) ws.length cw, .int .i64 sm, .int .i64 (1 - toh), .int .i64 (T3 : Int), .bool false, .int .i64 0, .int .i64 0, .int .i64 0, .int .i64 sr, .slice ar rs.length cr], .int .i64 (n3 : Int)]) /\ RwW w' bw ws3 /\ Kp [bw] W w') := fun W hW => by
  have := zhx bw cw (zg S' ⟨ws1, S', 0⟩ y rs.length).1.ws sm (1 - toh) ((zg S' ⟨ws1, S', 0⟩ y rs.length).1.T : Int) (ovB S' (zg S' ⟨ws1, S', 0⟩ y rs.length).1.T) (ovI S' (zg S' ⟨ws1, S', 0⟩ y rs.length).1.T (S' : Int)) (ovI S' (zg S' ⟨ws1, S', 0⟩ y rs.length).1.T (T1 : Int)) (ovI S' (zg S' ⟨ws1, S', 0⟩ y rs.length).1.T ((zg S' ⟨ws1, S', 0⟩ y rs.length).1.C : Int)) sr ar cr rs ws3 T3 n3 W hW hF
  rw [hlN, hl1] at this
  exact this
 have HW : Hid (RwW w bw ws) := hW
 have HR : Hid (zbm w ar br rs.length y) := hR
 have HNE : Hid (0 < rs.length -> bw ≠ br) := hne0
 clear hW hR h hSt hy hH h1 h2 h3 h4 hF hlN hl1 hne0
 generalize (zg S' ⟨ws1, S', 0⟩ y rs.length) = NX at HF2 HF3 ⊢
 go_enter Tryz.func108, Tryz.ntmps108
 go_wp2_with fail
 have B0 : Below w.heap.size w ((w.alloc (.cells #[.slice (some ⟨bw, 0, none⟩) ws.length cw, .int .i64 sm, .int .i64 toh, .int .i64 top, .bool cyc, .int .i64 sn, .int .i64 old, .int .i64 cp, .int .i64 sr, .slice ar rs.length cr] 30)).alloc (.cells #[.slice none 0 0, .int .i64 0, .int .i64 0, .int .i64 0, .bool false, .int .i64 0, .int .i64 0, .int .i64 0, .int .i64 0, .slice none 0 0] 30)) := zq (Below.refl _ _)
 refine (HF1.out _ (Rw.of_block HW.out (B0.block _ hbw))).mono ?_
 rintro e w1 ⟨rfl, hW1, hK1⟩
 have z1 : w.heap.size + 1 < w1.heap.size := by have := hK1.size; simp at this; omega
 have RA1 : w1.rowIs w.heap.size 30 10 (fun i => (#[.slice (some ⟨bw, 0, none⟩) ws.length cw, .int .i64 sm, .int .i64 toh, .int .i64 top, .bool cyc, .int .i64 sn, .int .i64 old, .int .i64 cp, .int .i64 sr, .slice ar rs.length cr] : Array Value).getD i (.bool false)) := World.rowIs.of_block (zpp w #[.slice (some ⟨bw, 0, none⟩) ws.length cw, .int .i64 sm, .int .i64 toh, .int .i64 top, .bool cyc, .int .i64 sn, .int .i64 old, .int .i64 cp, .int .i64 sr, .slice ar rs.length cr] #[.slice none 0 0, .int .i64 0, .int .i64 0, .int .i64 0, .bool false, .int .i64 0, .int .i64 0, .int .i64 0, .int .i64 0, .slice none 0 0] rfl rfl).1 (hK1.block _ (by simp; omega) (by simp; omega))
 have HZ1 : Hid (w1.rowIs (w.heap.size + 1) 30 10 (fun i => (#[.slice none 0 0, .int .i64 0, .int .i64 0, .int .i64 0, .bool false, .int .i64 0, .int .i64 0, .int .i64 0, .int .i64 0, .slice none 0 0] : Array Value).getD i (.bool false))) := World.rowIs.of_block (zpp w #[.slice (some ⟨bw, 0, none⟩) ws.length cw, .int .i64 sm, .int .i64 toh, .int .i64 top, .bool cyc, .int .i64 sn, .int .i64 old, .int .i64 cp, .int .i64 sr, .slice ar rs.length cr] #[.slice none 0 0, .int .i64 0, .int .i64 0, .int .i64 0, .bool false, .int .i64 0, .int .i64 0, .int .i64 0, .int .i64 0, .slice none 0 0] rfl rfl).2 (hK1.block _ (by simp) (by simp; omega))
 have HK1 : Hid (Kp [bw] w w1) := (Kp.of_below B0).trans hK1
 have HW1 : Hid (RwW w1 bw ws1) := hW1
 clear hK1 hW1 B0
 obtain ⟨d0, d1, d2, d3, d4, d5, d6, d7, d8, d9⟩ := zd3 RA1 rfl rfl rfl rfl rfl rfl rfl rfl rfl rfl
 simp at d0 d1 d2 d3 d4 d5 d6 d7 d8 d9
 have fx := RA1.frozen
 have p0 : (w1.cell? ⟨w.heap.size, 0, none⟩).isSome = true := by rw [d0]; rfl
 have p1 : (w1.cell? ⟨w.heap.size, 1, none⟩).isSome = true := by rw [d1]; rfl
 have p2 : (w1.cell? ⟨w.heap.size, 2, none⟩).isSome = true := by rw [d2]; rfl
 have p3 : (w1.cell? ⟨w.heap.size, 3, none⟩).isSome = true := by rw [d3]; rfl
 have p4 : (w1.cell? ⟨w.heap.size, 4, none⟩).isSome = true := by rw [d4]; rfl
 have p5 : (w1.cell? ⟨w.heap.size, 5, none⟩).isSome = true := by rw [d5]; rfl
 have p6 : (w1.cell? ⟨w.heap.size, 6, none⟩).isSome = true := by rw [d6]; rfl
 have p7 : (w1.cell? ⟨w.heap.size, 7, none⟩).isSome = true := by rw [d7]; rfl
 have p8 : (w1.cell? ⟨w.heap.size, 8, none⟩).isSome = true := by rw [d8]; rfl
 have p9 : (w1.cell? ⟨w.heap.size, 9, none⟩).isSome = true := by rw [d9]; rfl
 have HRA : Hid (w1.rowIs w.heap.size 30 10 (fun i => (#[.slice (some ⟨bw, 0, none⟩) ws.length cw, .int .i64 sm, .int .i64 toh, .int .i64 top, .bool cyc, .int .i64 sn, .int .i64 old, .int .i64 cp, .int .i64 sr, .slice ar rs.length cr] : Array Value).getD i (.bool false))) := RA1
 clear RA1
 have T1r := zc5 (A := #[.slice (some ⟨bw, 0, none⟩) ws.length cw, .int .i64 sm, .int .i64 toh, .int .i64 (T1 : Int), .bool false, .int .i64 0, .int .i64 0, .int .i64 0, .int .i64 sr, .slice ar rs.length cr]) HRA.out rfl rfl rfl rfl rfl rfl rfl rfl rfl rfl
 have HT1 : Hid _ := T1r
 clear T1r HRA
 go_wp2_with fail
 refine (HF2.out _ (Rw.of_block HW1.out (zaa (by omega))) (zfj (zjr HR.out HK1.out (fun g => by have := HNE.out g; simp; omega)) (fun _ => zaa (by omega))) (by simp; omega)).mono ?_
 rintro e w2 ⟨rfl, hW2, hR2, hK2⟩
 have z2 : w.heap.size + 1 < w2.heap.size := by have := hK2.size; simp at this; omega
 have RA2 := World.rowIs.of_block HT1.out (hK2.block _ (by simp; omega) (by simp; omega))
 have HZ2 : Hid (w2.rowIs (w.heap.size + 1) 30 10 (fun i => (#[.slice none 0 0, .int .i64 0, .int .i64 0, .int .i64 0, .bool false, .int .i64 0, .int .i64 0, .int .i64 0, .int .i64 0, .slice none 0 0] : Array Value).getD i (.bool false))) := World.rowIs.of_block HZ1.out ((hK2.block _ (by simp; omega) (by simp; omega)).trans (zaa (by omega)))
 have HK2 : Hid (Kp [bw, br] w w2) := (zc7 (HK1.out.mono (fun x hx => by simp at hx; simp [hx])) (Nat.le_refl _)).trans hK2
 have HW2 : Hid (RwW w2 bw NX.1.ws) := hW2
 have HR2 : Hid (zbm w2 ar br rs.length NX.2) := hR2
 clear hK2 hW2 hR2 HT1 HZ1 HK1 HW1 d0 d1 d2 d3 d4 d5 d6 d7 d8 d9 fx p0 p1 p2 p3 p4 p5 p6 p7 p8 p9
 obtain ⟨d0, d1, d2, d3, d4, d5, d6, d7, d8, d9⟩ := zd3 RA2 rfl rfl rfl rfl rfl rfl rfl rfl rfl rfl
 simp at d0 d1 d2 d3 d4 d5 d6 d7 d8 d9
 have fx := RA2.frozen
 have p0 : (w2.cell? ⟨w.heap.size, 0, none⟩).isSome = true := by rw [d0]; rfl
 have p1 : (w2.cell? ⟨w.heap.size, 1, none⟩).isSome = true := by rw [d1]; rfl
 have p2 : (w2.cell? ⟨w.heap.size, 2, none⟩).isSome = true := by rw [d2]; rfl
 have p3 : (w2.cell? ⟨w.heap.size, 3, none⟩).isSome = true := by rw [d3]; rfl
 have p4 : (w2.cell? ⟨w.heap.size, 4, none⟩).isSome = true := by rw [d4]; rfl
 have p5 : (w2.cell? ⟨w.heap.size, 5, none⟩).isSome = true := by rw [d5]; rfl
 have p6 : (w2.cell? ⟨w.heap.size, 6, none⟩).isSome = true := by rw [d6]; rfl
 have p7 : (w2.cell? ⟨w.heap.size, 7, none⟩).isSome = true := by rw [d7]; rfl
 have p8 : (w2.cell? ⟨w.heap.size, 8, none⟩).isSome = true := by rw [d8]; rfl
 have p9 : (w2.cell? ⟨w.heap.size, 9, none⟩).isSome = true := by rw [d9]; rfl
 have HRA : Hid (w2.rowIs w.heap.size 30 10 (fun i => (#[.slice (some ⟨bw, 0, none⟩) ws.length cw, .int .i64 sm, .int .i64 toh, .int .i64 (T1 : Int), .bool false, .int .i64 0, .int .i64 0, .int .i64 0, .int .i64 sr, .slice ar rs.length cr] : Array Value).getD i (.bool false))) := RA2
 clear RA2
 have T2r := zc5 (A := #[.slice (some ⟨bw, 0, none⟩) ws.length cw, .int .i64 sm, .int .i64 (1 - toh), .int .i64 (NX.1.T : Int), .bool (ovB S' NX.1.T), .int .i64 (ovI S' NX.1.T (S' : Int)), .int .i64 (ovI S' NX.1.T (T1 : Int)), .int .i64 (ovI S' NX.1.T (NX.1.C : Int)), .int .i64 sr, .slice ar rs.length cr]) HRA.out rfl rfl rfl rfl rfl rfl rfl rfl rfl rfl
 have HT2 : Hid _ := T2r
 clear T2r HRA
 go_wp2_with fail
 refine (HF3.out _ (Rw.of_block HW2.out (zaa (by omega)))).mono ?_
 rintro e w3 ⟨rfl, hW3, hK3⟩
 have z3 : w.heap.size + 1 < w3.heap.size := by have := hK3.size; simp at this; omega
 have RA3 := World.rowIs.of_block HT2.out (hK3.block _ (by simp; omega) (by simp; omega))
 have RZ3 : w3.rowIs (w.heap.size + 1) 30 10 (fun i => (#[.slice none 0 0, .int .i64 0, .int .i64 0, .int .i64 0, .bool false, .int .i64 0, .int .i64 0, .int .i64 0, .int .i64 0, .slice none 0 0] : Array Value).getD i (.bool false)) := World.rowIs.of_block HZ2.out ((hK3.block _ (by simp; omega) (by simp; omega)).trans (zaa (by omega)))
 have HK3 : Hid (Kp [bw, br] w w3) := (zc7 HK2.out (Nat.le_refl _)).trans (hK3.mono (fun x hx => by simp at hx; simp [hx]))
 have HW3 : Hid (RwW w3 bw ws3) := hW3
 have HR3 : Hid (zbm w3 ar br rs.length NX.2) := zjr (zfj HR2.out (fun _ => zaa (by omega))) hK3 (fun g => by have := HNE.out g; simp; omega)
 clear hK3 hW3 HT2 HZ2 HK2 HW2 HR2 d0 d1 d2 d3 d4 d5 d6 d7 d8 d9 fx p0 p1 p2 p3 p4 p5 p6 p7 p8 p9
 obtain ⟨d0, d1, d2, d3, d4, d5, d6, d7, d8, d9⟩ := zd3 RA3 rfl rfl rfl rfl rfl rfl rfl rfl rfl rfl
 simp at d0 d1 d2 d3 d4 d5 d6 d7 d8 d9
 have fx := RA3.frozen
 have p0 : (w3.cell? ⟨w.heap.size, 0, none⟩).isSome = true := by rw [d0]; rfl
 have p1 : (w3.cell? ⟨w.heap.size, 1, none⟩).isSome = true := by rw [d1]; rfl
 have p2 : (w3.cell? ⟨w.heap.size, 2, none⟩).isSome = true := by rw [d2]; rfl
 have p3 : (w3.cell? ⟨w.heap.size, 3, none⟩).isSome = true := by rw [d3]; rfl
 have p4 : (w3.cell? ⟨w.heap.size, 4, none⟩).isSome = true := by rw [d4]; rfl
 have p5 : (w3.cell? ⟨w.heap.size, 5, none⟩).isSome = true := by rw [d5]; rfl
 have p6 : (w3.cell? ⟨w.heap.size, 6, none⟩).isSome = true := by rw [d6]; rfl
 have p7 : (w3.cell? ⟨w.heap.size, 7, none⟩).isSome = true := by rw [d7]; rfl
 have p8 : (w3.cell? ⟨w.heap.size, 8, none⟩).isSome = true := by rw [d8]; rfl
 have p9 : (w3.cell? ⟨w.heap.size, 9, none⟩).isSome = true := by rw [d9]; rfl
 have HRA : Hid (w3.rowIs w.heap.size 30 10 (fun i => (#[.slice (some ⟨bw, 0, none⟩) ws.length cw, .int .i64 sm, .int .i64 (1 - toh), .int .i64 (NX.1.T : Int), .bool (ovB S' NX.1.T), .int .i64 (ovI S' NX.1.T (S' : Int)), .int .i64 (ovI S' NX.1.T (T1 : Int)), .int .i64 (ovI S' NX.1.T (NX.1.C : Int)), .int .i64 sr, .slice ar rs.length cr] : Array Value).getD i (.bool false))) := RA3
 clear RA3
 obtain ⟨c0, c1, c2, c3, c4, c5, c6, c7, c8, c9⟩ := zd3 RZ3 rfl rfl rfl rfl rfl rfl rfl rfl rfl rfl
 simp at c0 c1 c2 c3 c4 c5 c6 c7 c8 c9
 have fz := RZ3.frozen
 clear RZ3 HRA
 go_wp2
 have q0 : (w3.cell? ⟨w.heap.size + 1, 0, none⟩).isSome = true := by rw [c0]; rfl
 have q1 : (w3.cell? ⟨w.heap.size + 1, 1, none⟩).isSome = true := by rw [c1]; rfl
 have q2 : (w3.cell? ⟨w.heap.size + 1, 2, none⟩).isSome = true := by rw [c2]; rfl
 have q3 : (w3.cell? ⟨w.heap.size + 1, 3, none⟩).isSome = true := by rw [c3]; rfl
 have q4 : (w3.cell? ⟨w.heap.size + 1, 4, none⟩).isSome = true := by rw [c4]; rfl
 have q5 : (w3.cell? ⟨w.heap.size + 1, 5, none⟩).isSome = true := by rw [c5]; rfl
 have q6 : (w3.cell? ⟨w.heap.size + 1, 6, none⟩).isSome = true := by rw [c6]; rfl
 have q7 : (w3.cell? ⟨w.heap.size + 1, 7, none⟩).isSome = true := by rw [c7]; rfl
 have q8 : (w3.cell? ⟨w.heap.size + 1, 8, none⟩).isSome = true := by rw [c8]; rfl
 have q9 : (w3.cell? ⟨w.heap.size + 1, 9, none⟩).isSome = true := by rw [c9]; rfl
 refine bodyPost_ret (v := .agg #[.slice (some ⟨bw, 0, none⟩) ws.length cw, .int .i64 sm, .int .i64 (1 - toh), .int .i64 (T3 : Int), .bool false, .int .i64 0, .int .i64 0, .int .i64 0, .int .i64 sr, .slice ar rs.length cr]) (by simp [results, Tryz.results108, go_sem, q0, q1, q2, q3, q4, q5, q6, q7, q8, q9, p0, p1, p2, p3, p4, p5, p6, p7, p8, p9]) rfl ⟨rfl, ?_, ?_, ?_⟩
 · exact Rw.of_block HW3.out ((zaa (by omega)).trans (zaa (by omega)))
 · exact zfj HR3.out (fun _ => (zaa (by omega)).trans (zaa (by omega)))
 · exact zc7 (zc7 HK3.out (Nat.le_refl _)) (by omega)
theorem zjq (ba : Nat) (bw cw : Nat) (ws : List Int) (sm toh top : Int) (cyc : Bool) (sn old cp sr : Int) (ar : Option Addr) (cr : Nat) (rs : List (Int × Int)) (ws1 : List Int) (T1 n1 : Nat) (w : World) (hA : w.rowIs ba 30 10 (fun i => (#[.slice (some ⟨bw, 0, none⟩) ws.length cw, .int .i64 sm, .int .i64 toh, .int .i64 top, .bool cyc, .int .i64 sn, .int .i64 old, .int .i64 cp, .int .i64 sr, .slice ar rs.length cr] : Array Value).getD i (.bool false))) (hW : RwW w bw ws) (hab : ba ≠ bw) (hcw : ws.length <= cw) (h : Fin ws sm toh top cyc sn old cp ws1 T1 n1) :
 Calls Tryz.prog 107 #[.pointer (some ⟨ba, 0, none⟩)] w fun e w' => e = .returned (.int .i64 (n1 : Int)) /\ w'.rowIs ba 30 10 (fun i => (#[.slice (some ⟨bw, 0, none⟩) ws.length cw, .int .i64 sm, .int .i64 toh, .int .i64 (T1 : Int), .bool false, .int .i64 0, .int .i64 0, .int .i64 0, .int .i64 sr, .slice ar rs.length cr] : Array Value).getD i (.bool false)) /\ RwW w' bw ws1 /\ Kp [ba, bw] w w' := by
 rcases h with ⟨rfl, S, E, F, Od, sc, T, C, L, O, rfl, rfl, rfl, hC, hH, hCT, hE8, rfl, rfl, rfl⟩ | ⟨rfl, rfl, rfl, rfl, rfl, rfl, rfl⟩
 · exact zp9 ba bw cw ws sm toh T sc old C sr ar cr rs w hA hW hab hcw hC hH hCT hE8 rfl
 · refine (zsg ba bw cw ws1 sm toh _ _ _ _ sr ar cr rs w hA).mono ?_
   rintro e w' ⟨rfl, b⟩
   exact ⟨rfl, World.rowIs.of_block hA (b.block _ hA.lt), Rw.of_block hW (b.block _ hW.lt), Kp.of_below b⟩
set_option maxHeartbeats 2000000 in
theorem zp7 (ba : Nat) (bw cw : Nat) (ws : List Int) (sm toh top : Int) (cyc : Bool) (sn old cp sr : Int) (ar : Option Addr) (cr : Nat) (rs : List (Int × Int)) (ws1 : List Int) (T1 n1 : Nat) (br : Nat) (y : Nat -> Int) (w : World) {S E S' E' : Nat} {L : List Nat} {ws3 : List Int} {T3 n3 : Nat} (hA : w.rowIs ba 30 10 (fun i => (#[.slice (some ⟨bw, 0, none⟩) ws.length cw, .int .i64 sm, .int .i64 toh, .int .i64 top, .bool cyc, .int .i64 sn, .int .i64 old, .int .i64 cp, .int .i64 sr, .slice ar rs.length cr] : Array Value).getD i (.bool false))) (hW : RwW w bw ws) (hR : zbm w ar br rs.length y) (hab : ba ≠ bw) (har : ba ≠ br) (hbr : br < w.heap.size) (hne0 : 0 < rs.length -> bw ≠ br) (hcw : ws.length <= cw) (h : Fin ws sm toh top cyc sn old cp ws1 T1 n1) (hSt : zc9 ws1 S T1 E L) (hy : zbj y rs.length L) (hH : zat sm (1 - toh) S' E' S T1) (h1 : E' <= S \/ T1 <= S') (h2 : S' + (T1 - S) <= E') (h3 : E' <= ws1.length) (h4 : 1 <= S') (hrl : rs.length <= 24) (hF : Fin (zg S' ⟨ws1, S', 0⟩ y rs.length).1.ws sm (1 - toh) ((zg S' ⟨ws1, S', 0⟩ y rs.length).1.T : Int) (ovB S' (zg S' ⟨ws1, S', 0⟩ y rs.length).1.T) (ovI S' (zg S' ⟨ws1, S', 0⟩ y rs.length).1.T (S' : Int)) (ovI S' (zg S' ⟨ws1, S', 0⟩ y rs.length).1.T (T1 : Int)) (ovI S' (zg S' ⟨ws1, S', 0⟩ y rs.length).1.T ((zg S' ⟨ws1, S', 0⟩ y rs.length).1.C : Int)) ws3 T3 n3) (hlN : (zg S' ⟨ws1, S', 0⟩ y rs.length).1.ws.length = ws1.length) :
 Calls Tryz.prog 109 #[.pointer (some ⟨ba, 0, none⟩)] w fun e w' => e = .returned (.tuple #[]) /\ w'.rowIs ba 30 10 (fun i => (#[.slice (some ⟨bw, 0, none⟩) ws.length cw, .int .i64 sm, .int .i64 (1 - toh), .int .i64 (T3 : Int), .bool false, .int .i64 0, .int .i64 0, .int .i64 0, .int .i64 sr, .slice ar rs.length cr] : Array Value).getD i (.bool false)) /\ RwW w' bw ws3 /\ zbm w' ar br rs.length (zg S' ⟨ws1, S', 0⟩ y rs.length).2 /\ Kp [bw, br, ba] w w' := by
 have hl1 := h.len
 have HF1 : Hid (∀ W, W.rowIs ba 30 10 (fun i => (#[.slice (some ⟨bw, 0, none⟩) ws.length cw, .int .i64 sm, .int .i64 toh, .int .i64 top, .bool cyc, .int .i64 sn, .int .i64 old, .int .i64 cp, .int .i64 sr, .slice ar rs.length cr] : Array Value).getD i (.bool false)) -> RwW W bw ws -> Calls Tryz.prog 107 #[.pointer (some ⟨ba, 0, none⟩)] W fun e w' => e = .returned (.int .i64 (n1 : Int)) /\ w'.rowIs ba 30 10 (fun i => (#[.slice (some ⟨bw, 0, none⟩) ws.length cw, .int .i64 sm, .int .i64 toh, .int .i64 (T1 : Int), .bool false, .int .i64 0, .int .i64 0, .int .i64 0, .int .i64 sr, .slice ar rs.length cr] : Array Value).getD i (.bool false)) /\ RwW w' bw ws1 /\ Kp [ba, bw] W w') := fun W hA hW => zjq ba bw cw ws sm toh top cyc sn old cp sr ar cr rs ws1 T1 n1 W hA hW hab hcw h
 have HF2 : Hid (∀ W, W.rowIs ba 30 10 (fun i => (#[.slice (some ⟨bw, 0, none⟩) ws.length cw, .int .i64 sm, .int .i64 toh, .int .i64 (T1 : Int), .bool false, .int .i64 0, .int .i64 0, .int .i64 0, .int .i64 sr, .slice ar rs.length cr] : Array Value).getD i (.bool false)) -> RwW W bw ws1 -> zbm W ar br rs.length y -> br < W.heap.size -> Calls Tryz.prog 105 #[.pointer (some ⟨ba, 0, none⟩)] W fun e w' => e = .returned (.tuple #[]) /\ w'.rowIs ba 30 10 (fun i => (#[.slice (some ⟨bw, 0, none⟩) ws.length cw, .int .i64 sm, .int .i64 (1 - toh), .int .i64 ((zg S' ⟨ws1, S', 0⟩ y rs.length).1.T : Int), .bool (ovB S' (zg S' ⟨ws1, S', 0⟩ y rs.length).1.T), .int .i64 (ovI S' (zg S' ⟨ws1, S', 0⟩ y rs.length).1.T (S' : Int)), .int .i64 (ovI S' (zg S' ⟨ws1, S', 0⟩ y rs.length).1.T (T1 : Int)), .int .i64 (ovI S' (zg S' ⟨ws1, S', 0⟩ y rs.length).1.T ((zg S' ⟨ws1, S', 0⟩ y rs.length).1.C : Int)), .int .i64 sr, .slice ar rs.length cr] : Array Value).getD i (.bool false)) /\ RwW w' bw (zg S' ⟨ws1, S', 0⟩ y rs.length).1.ws /\ zbm w' ar br rs.length (zg S' ⟨ws1, S', 0⟩ y rs.length).2 /\ Kp [bw, br, ba] W w') := fun W hA hW hR hb => by
  have := zwb ba bw cw br ws1 sm toh T1 false 0 0 0 sr ar cr rs y W (by rw [hl1]; exact hA) hW hR hab har hb hne0 (by omega) hSt hy hH h1 h2 h3 h4 hrl
  rw [hl1] at this
  exact this
 have HF3 : Hid (∀ W, W.rowIs ba 30 10 (fun i => (#[.slice (some ⟨bw, 0, none⟩) ws.length cw, .int .i64 sm, .int .i64 (1 - toh), .int .i64 ((zg S' ⟨ws1, S', 0⟩ y rs.length).1.T : Int), .bool (ovB S' (zg S' ⟨ws1, S', 0⟩ y rs.length).1.T), .int .i64 (ovI S' (zg S' ⟨ws1, S', 0⟩ y rs.length).1.T (S' : Int)), .int .i64 (ovI S' (zg S' ⟨ws1, S', 0⟩ y rs.length).1.T (T1 : Int)), .int .i64 (ovI S' (zg S' ⟨ws1, S', 0⟩ y rs.length).1.T ((zg S' ⟨ws1, S', 0⟩ y rs.length).1.C : Int)), .int .i64 sr, .slice ar rs.length cr] : Array Value).getD i (.bool false)) -> RwW W bw (zg S' ⟨ws1, S', 0⟩ y rs.length).1.ws -> Calls Tryz.prog 107 #[.pointer (some ⟨ba, 0, none⟩)] W fun e w' => e = .returned (.int .i64 (n3 : Int)) /\ w'.rowIs ba 30 10 (fun i => (#[.slice (some ⟨bw, 0, none⟩) ws.length cw, .int .i64 sm, .int .i64 (1 - toh), .int .i64 (T3 : Int), .bool false, .int .i64 0, .int .i64 0, .int .i64 0, .int .i64 sr, .slice ar rs.length cr] : Array Value).getD i (.bool false)) /\ RwW w' bw ws3 /\ Kp [ba, bw] W w') := fun W hA hW => by
  have := zjq ba bw cw (zg S' ⟨ws1, S', 0⟩ y rs.length).1.ws sm (1 - toh) ((zg S' ⟨ws1, S', 0⟩ y rs.length).1.T : Int) (ovB S' (zg S' ⟨ws1, S', 0⟩ y rs.length).1.T) (ovI S' (zg S' ⟨ws1, S', 0⟩ y rs.length).1.T (S' : Int)) (ovI S' (zg S' ⟨ws1, S', 0⟩ y rs.length).1.T (T1 : Int)) (ovI S' (zg S' ⟨ws1, S', 0⟩ y rs.length).1.T ((zg S' ⟨ws1, S', 0⟩ y rs.length).1.C : Int)) sr ar cr rs ws3 T3 n3 W (by rw [hlN, hl1]; exact hA) hW hab (by omega) hF
  rw [hlN, hl1] at this
  exact this
 have HA : Hid (w.rowIs ba 30 10 (fun i => (#[.slice (some ⟨bw, 0, none⟩) ws.length cw, .int .i64 sm, .int .i64 toh, .int .i64 top, .bool cyc, .int .i64 sn, .int .i64 old, .int .i64 cp, .int .i64 sr, .slice ar rs.length cr] : Array Value).getD i (.bool false))) := hA
 have HW : Hid (RwW w bw ws) := hW
 have HR : Hid (zbm w ar br rs.length y) := hR
 have HNE : Hid (0 < rs.length -> bw ≠ br) := hne0
 clear hA hW hR h hSt hy hH h1 h2 h3 h4 hF hlN hl1 hne0
 generalize (zg S' ⟨ws1, S', 0⟩ y rs.length) = NX at HF2 HF3 ⊢
 go_enter Tryz.func109, Tryz.ntmps109
 go_wp2_with fail
 refine (HF1.out _ HA.out HW.out).mono ?_
 rintro e w1 ⟨rfl, hA1, hW1, hK1⟩
 have HA1 : Hid (w1.rowIs ba 30 10 (fun i => (#[.slice (some ⟨bw, 0, none⟩) ws.length cw, .int .i64 sm, .int .i64 toh, .int .i64 (T1 : Int), .bool false, .int .i64 0, .int .i64 0, .int .i64 0, .int .i64 sr, .slice ar rs.length cr] : Array Value).getD i (.bool false))) := hA1
 have HW1 : Hid (RwW w1 bw ws1) := hW1
 have HK1 : Hid (Kp [ba, bw] w w1) := hK1
 clear hA1 hW1 hK1
 go_wp2_with fail
 refine (HF2.out _ HA1.out HW1.out (zjr HR.out HK1.out (fun g => by have := HNE.out g; simp; omega)) (Nat.lt_of_lt_of_le hbr HK1.out.size)).mono ?_
 rintro e w2 ⟨rfl, hA2, hW2, hR2, hK2⟩
 have HA2 : Hid (w2.rowIs ba 30 10 (fun i => (#[.slice (some ⟨bw, 0, none⟩) ws.length cw, .int .i64 sm, .int .i64 (1 - toh), .int .i64 (NX.1.T : Int), .bool (ovB S' NX.1.T), .int .i64 (ovI S' NX.1.T (S' : Int)), .int .i64 (ovI S' NX.1.T (T1 : Int)), .int .i64 (ovI S' NX.1.T (NX.1.C : Int)), .int .i64 sr, .slice ar rs.length cr] : Array Value).getD i (.bool false))) := hA2
 have HW2 : Hid (RwW w2 bw NX.1.ws) := hW2
 have HR2 : Hid (zbm w2 ar br rs.length NX.2) := hR2
 have HK2 : Hid (Kp [bw, br, ba] w w2) := (HK1.out.mono (fun x hx => by simp at hx ⊢; omega)).trans hK2
 clear hA2 hW2 hR2 hK2 HA1 HW1 HK1
 go_wp2_with fail
 refine (HF3.out _ HA2.out HW2.out).mono ?_
 rintro e w3 ⟨rfl, hA3, hW3, hK3⟩
 have HA3 : Hid (w3.rowIs ba 30 10 (fun i => (#[.slice (some ⟨bw, 0, none⟩) ws.length cw, .int .i64 sm, .int .i64 (1 - toh), .int .i64 (T3 : Int), .bool false, .int .i64 0, .int .i64 0, .int .i64 0, .int .i64 sr, .slice ar rs.length cr] : Array Value).getD i (.bool false))) := hA3
 have HW3 : Hid (RwW w3 bw ws3) := hW3
 have HR3 : Hid (zbm w3 ar br rs.length NX.2) := zjr HR2.out hK3 (fun g => by have := HNE.out g; simp; omega)
 have HK3 : Hid (Kp [bw, br, ba] w w3) := HK2.out.trans (hK3.mono (fun x hx => by simp at hx ⊢; omega))
 clear hA3 hW3 hK3 HA2 HW2 HK2 HR2
 go_wp2
 go_end0
 exact ⟨rfl, HA3.out, HW3.out, HR3.out, HK3.out⟩
set_option maxHeartbeats 2000000 in
theorem zjm (aw : Option Addr) (cw : Nat) (ws : List Int) (sm toh top : Int) (cyc : Bool) (sn old cp sr : Int) (ar : Option Addr) (cr : Nat) (rs : List (Int × Int))  (y : Nat -> Int) (Tr : Nat) (w : World) (hs : Sl w (.slice aw ws.length cw) ws) (hcw : ws.length <= cw) (hn : ws.length <= 1048576) (hw : zh ws) (hrt : SlF Tr w (.slice ar rs.length cr) rs.length (2 * rs.length) (fun i => .int .i64 (y i))) (hn2 : rs.length <= 1048576) (hok : ¬ zdk ws sm toh top cyc sn old cp sr y rs.length) :
 Calls Tryz.prog 57 #[.agg #[.slice aw ws.length cw, .int .i64 sm, .int .i64 toh, .int .i64 top, .bool cyc, .int .i64 sn, .int .i64 old, .int .i64 cp, .int .i64 sr, .slice ar rs.length cr]] w fun e w' => ∃ vw vr, e = .returned (.tuple #[.agg #[vw, .int .i64 sm, .int .i64 toh, .int .i64 top, .bool cyc, .int .i64 sn, .int .i64 old, .int .i64 cp, .int .i64 sr, vr], .bool false]) /\ zb7 w.heap.size w'.heap.size w' vw vr ws.length rs.length (za ws) (y) /\ Below w.heap.size w w' := by
 have HS : Hid (Sl w (.slice aw ws.length cw) ws) := hs
 have HR : Hid (SlF w.heap.size w (.slice ar rs.length cr) rs.length (2 * rs.length) (fun i => .int .i64 (y i))) := hrt.here
 have HQ : Hid (¬ zdk ws sm toh top cyc sn old cp sr y rs.length) := hok
 clear hs hrt hok
 go_enter Tryz.func57, Tryz.ntmps57
 go_wp2_with fail
 refine (zvj _ _ _ _ _ _ _ _ _ _ _ _ _ _ y w.heap.size _ (HS.out.below (zq (Below.refl _ _))) hn (HR.out.below (zq (Below.refl _ _)) (Nat.le_refl _)) hn2).mono ?_
 rintro e w1 ⟨vw, vr, rfl, o1, b1⟩
 simp only [World.size_alloc] at o1
 obtain ⟨a1, c1, rfl⟩ := o1.sl.1.head
 obtain ⟨a2, c2, rfl⟩ := o1.sl.2.head
 have B1 := zq b1
 have l1 : w.heap.size + 1 < w1.heap.size := by have := b1.size; simp at this; omega
 have l0 : w.heap.size < w1.heap.size := by omega
 have k1 : ∀ i, w1.cell? ⟨w.heap.size, i, none⟩ = (#[.slice aw ws.length cw, .int .i64 sm, .int .i64 toh, .int .i64 top, .bool cyc, .int .i64 sn, .int .i64 old, .int .i64 cp, .int .i64 sr, .slice ar rs.length cr] : Array Value)[i]? := fun i => by rw [b1.cell (p := ⟨w.heap.size, i, none⟩) (by simp <;> omega)]; simp [go_sem]
 obtain ⟨_, hres⟩ := zdi (n := 10) b1 (by simp) rfl rfl
 have Z1 : w1.rowIs (w.heap.size + 1) 30 10 (fun i => (#[.slice none 0 0, .int .i64 0, .int .i64 0, .int .i64 0, .bool false, .int .i64 0, .int .i64 0, .int .i64 0, .int .i64 0, .slice none 0 0] : Array Value).getD i (.bool false)) := hres
 have HZ1 : Hid _ := Z1
 clear b1 hres Z1
 go_wp2_with fail
 refine (zg0 _ _ _ _ _ _ _ _ _ _ _ _ _ _ y w.heap.size _ (HS.out.below (zev B1)) hcw hn hw (HR.out.below (zev B1) (Nat.le_refl _)) hn2).mono ?_
 rintro e w2 ⟨q, rfl, hq, b2⟩
 obtain rfl : q = false := by
  cases q with
  | false => rfl
  | true => exact absurd (hq.1 rfl) HQ.out
 have b2f := zd b2
 have p2 := zt b2 (by simp)
 have z2 : w1.heap.size < w2.heap.size := zu b2
 have B2 := zc B1 b2f
 have k2 := ze k1 b2f (by omega)
 have o2 := o1.below b2f (by omega)
 have HZ2 : Hid (w2.rowIs (w.heap.size + 1) 30 10 (fun i => (#[.slice none 0 0, .int .i64 0, .int .i64 0, .int .i64 0, .bool false, .int .i64 0, .int .i64 0, .int .i64 0, .int .i64 0, .slice none 0 0] : Array Value).getD i (.bool false))) := World.rowIs.of_block HZ1.out (b2f.block _ (by omega))
 clear k1 b2 b2f o1 HZ1 hq B1
 obtain ⟨d0, d1, d2, d3, d4, d5, d6, d7, d8, d9⟩ := zd3 HZ2.out rfl rfl rfl rfl rfl rfl rfl rfl rfl rfl
 simp at d0 d1 d2 d3 d4 d5 d6 d7 d8 d9
 have ef := World.rowIs.frozen HZ2.out
 have HO : Hid (zb7 (w.heap.size + 1 + 1) w1.heap.size w2 (.slice a1 ws.length c1) (.slice a2 rs.length c2) ws.length rs.length (za ws) y) := o2
 have HB : Hid (Below w.heap.size w w2) := B2
 clear o2 B2 HZ2
 go_wp2
 have q0 : (w2.cell? ⟨w.heap.size + 1, 0, none⟩).isSome = true := by rw [d0]; rfl
 have q1 : (w2.cell? ⟨w.heap.size + 1, 1, none⟩).isSome = true := by rw [d1]; rfl
 have q2 : (w2.cell? ⟨w.heap.size + 1, 2, none⟩).isSome = true := by rw [d2]; rfl
 have q3 : (w2.cell? ⟨w.heap.size + 1, 3, none⟩).isSome = true := by rw [d3]; rfl
 have q4 : (w2.cell? ⟨w.heap.size + 1, 4, none⟩).isSome = true := by rw [d4]; rfl
 have q5 : (w2.cell? ⟨w.heap.size + 1, 5, none⟩).isSome = true := by rw [d5]; rfl
 have q6 : (w2.cell? ⟨w.heap.size + 1, 6, none⟩).isSome = true := by rw [d6]; rfl
 have q7 : (w2.cell? ⟨w.heap.size + 1, 7, none⟩).isSome = true := by rw [d7]; rfl
 have q8 : (w2.cell? ⟨w.heap.size + 1, 8, none⟩).isSome = true := by rw [d8]; rfl
 have q9 : (w2.cell? ⟨w.heap.size + 1, 9, none⟩).isSome = true := by rw [d9]; rfl
 refine bodyPost_ret (v := .tuple #[.agg #[.slice a1 ws.length c1, .int .i64 sm, .int .i64 toh, .int .i64 top, .bool cyc, .int .i64 sn, .int .i64 old, .int .i64 cp, .int .i64 sr, .slice a2 rs.length c2], .bool false]) (by simp [results, Tryz.results57, go_sem, q0, q1, q2, q3, q4, q5, q6, q7, q8, q9]) rfl ⟨_, _, rfl, ?_, ?_⟩
 · obtain ⟨u1, t1, u2, t2, h1, h2, h3, h4, h5, h6, h7⟩ := HO.out
   exact ⟨u1, t1, u2, t2, by omega, by simp; omega, by omega, by simp; omega, h5, zen h6 (by omega), zen h7 (by omega)⟩
 · exact zdv HB.out (by omega)
set_option maxHeartbeats 2000000 in
theorem zjn (aw : Option Addr) (cw : Nat) (ws : List Int) (sm toh top : Int) (cyc : Bool) (sn old cp sr : Int) (ar : Option Addr) (cr : Nat) (rs : List (Int × Int)) {ws1 : List Int} {T1 n1 S E S' E' : Nat} {L : List Nat} {ws3 : List Int} {T3 n3 : Nat} (y : Nat -> Int) (Tr : Nat) (w : World) (hs : Sl w (.slice aw ws.length cw) ws) (hcw : ws.length <= cw) (hn : ws.length <= 1048576) (hw : zh ws) (hrt : SlF Tr w (.slice ar rs.length cr) rs.length (2 * rs.length) (fun i => .int .i64 (y i))) (hn2 : rs.length <= 1048576) (hok : zdk ws sm toh top cyc sn old cp sr y rs.length) (h : Fin ws sm toh top cyc sn old cp ws1 T1 n1) (hSt : zc9 ws1 S T1 E L) (hy : zbj y rs.length L) (hH : zat sm (1 - toh) S' E' S T1) (h1 : E' <= S \/ T1 <= S') (h2 : S' + (T1 - S) <= E') (h3 : E' <= ws1.length) (h4 : 1 <= S') (hrl : rs.length <= 24) (g6 : 0 < ws.length) (hF : Fin (zg S' ⟨ws1, S', 0⟩ y rs.length).1.ws sm (1 - toh) ((zg S' ⟨ws1, S', 0⟩ y rs.length).1.T : Int) (ovB S' (zg S' ⟨ws1, S', 0⟩ y rs.length).1.T) (ovI S' (zg S' ⟨ws1, S', 0⟩ y rs.length).1.T (S' : Int)) (ovI S' (zg S' ⟨ws1, S', 0⟩ y rs.length).1.T (T1 : Int)) (ovI S' (zg S' ⟨ws1, S', 0⟩ y rs.length).1.T ((zg S' ⟨ws1, S', 0⟩ y rs.length).1.C : Int)) ws3 T3 n3) (hlN : (zg S' ⟨ws1, S', 0⟩ y rs.length).1.ws.length = ws1.length) :
 Calls Tryz.prog 57 #[.agg #[.slice aw ws.length cw, .int .i64 sm, .int .i64 toh, .int .i64 top, .bool cyc, .int .i64 sn, .int .i64 old, .int .i64 cp, .int .i64 sr, .slice ar rs.length cr]] w fun e w' => ∃ vw vr, e = .returned (.tuple #[.agg #[vw, .int .i64 sm, .int .i64 (1 - toh), .int .i64 (T3 : Int), .bool false, .int .i64 0, .int .i64 0, .int .i64 0, .int .i64 sr, vr], .bool true]) /\ zb7 w.heap.size w'.heap.size w' vw vr ws.length rs.length (za ws3) (zg S' ⟨ws1, S', 0⟩ y rs.length).2 /\ Below w.heap.size w w' := by
 have HS : Hid (Sl w (.slice aw ws.length cw) ws) := hs
 have HR : Hid (SlF w.heap.size w (.slice ar rs.length cr) rs.length (2 * rs.length) (fun i => .int .i64 (y i))) := hrt.here
 have HQ : Hid (zdk ws sm toh top cyc sn old cp sr y rs.length) := hok
 have HFN : Hid (Fin ws sm toh top cyc sn old cp ws1 T1 n1) := h
 have HST : Hid (zc9 ws1 S T1 E L) := hSt
 have HYY : Hid (zbj y rs.length L) := hy
 have HHH : Hid (zat sm (1 - toh) S' E' S T1) := hH
 have HFF : Hid (Fin (zg S' ⟨ws1, S', 0⟩ y rs.length).1.ws sm (1 - toh) ((zg S' ⟨ws1, S', 0⟩ y rs.length).1.T : Int) (ovB S' (zg S' ⟨ws1, S', 0⟩ y rs.length).1.T) (ovI S' (zg S' ⟨ws1, S', 0⟩ y rs.length).1.T (S' : Int)) (ovI S' (zg S' ⟨ws1, S', 0⟩ y rs.length).1.T (T1 : Int)) (ovI S' (zg S' ⟨ws1, S', 0⟩ y rs.length).1.T ((zg S' ⟨ws1, S', 0⟩ y rs.length).1.C : Int)) ws3 T3 n3) := hF
 have HLN : Hid ((zg S' ⟨ws1, S', 0⟩ y rs.length).1.ws.length = ws1.length) := hlN
 have HLL : Hid (ws3.length = ws.length) := by show _ = _; rw [hF.len, hlN, h.len]
 have HE3 : Hid (E' <= ws1.length) := h3
 clear hs hrt hok h hSt hy hH hF hlN h3
 go_enter Tryz.func57, Tryz.ntmps57
 go_wp2_with fail
 refine (zko _ _ _ _ _ _ _ _ _ _ _ _ _ _ y w.heap.size _ (HS.out.below (zq (Below.refl _ _))) hn (HR.out.below (zq (Below.refl _ _)) (Nat.le_refl _)) hn2).mono ?_
 rintro e w1 ⟨vw, vr, rfl, ⟨a1, rfl⟩, o1, b1⟩
 simp only [World.size_alloc] at o1
 obtain ⟨a2, c2, rfl⟩ := o1.sl.2.head
 have B1 := zq b1
 have l1 : w.heap.size + 1 < w1.heap.size := by have := b1.size; simp at this; omega
 have l0 : w.heap.size < w1.heap.size := by omega
 have k1 : ∀ i, w1.cell? ⟨w.heap.size, i, none⟩ = (#[.slice aw ws.length cw, .int .i64 sm, .int .i64 toh, .int .i64 top, .bool cyc, .int .i64 sn, .int .i64 old, .int .i64 cp, .int .i64 sr, .slice ar rs.length cr] : Array Value)[i]? := fun i => by rw [b1.cell (p := ⟨w.heap.size, i, none⟩) (by simp <;> omega)]; simp [go_sem]
 obtain ⟨_, hres⟩ := zdi (n := 10) b1 (by simp) rfl rfl
 have Z1 : w1.rowIs (w.heap.size + 1) 30 10 (fun i => (#[.slice none 0 0, .int .i64 0, .int .i64 0, .int .i64 0, .bool false, .int .i64 0, .int .i64 0, .int .i64 0, .int .i64 0, .slice none 0 0] : Array Value).getD i (.bool false)) := hres
 have HZ1 : Hid _ := Z1
 clear b1 hres Z1
 go_wp2_with fail
 refine (zg0 _ _ _ _ _ _ _ _ _ _ _ _ _ _ y w.heap.size _ (HS.out.below (zev B1)) hcw hn hw (HR.out.below (zev B1) (Nat.le_refl _)) hn2).mono ?_
 rintro e w2 ⟨q, rfl, hq, b2⟩
 obtain rfl := hq.2 HQ.out
 have b2f := zd b2
 have p2 := zt b2 (by simp)
 have HP2 : Hid (w2.rowIs w1.heap.size 30 10 (fun i => (#[.slice a1 ws.length ws.length, .int .i64 sm, .int .i64 toh, .int .i64 top, .bool cyc, .int .i64 sn, .int .i64 old, .int .i64 cp, .int .i64 sr, .slice a2 rs.length c2] : Array Value).getD i (.bool false))) := zwa b2 (by simp) rfl
 have z2 : w1.heap.size < w2.heap.size := zu b2
 have B2 := zc B1 b2f
 have k2 := ze k1 b2f (by omega)
 have o2 := o1.below b2f (by omega)
 have HZ2 : Hid (w2.rowIs (w.heap.size + 1) 30 10 (fun i => (#[.slice none 0 0, .int .i64 0, .int .i64 0, .int .i64 0, .bool false, .int .i64 0, .int .i64 0, .int .i64 0, .int .i64 0, .slice none 0 0] : Array Value).getD i (.bool false))) := World.rowIs.of_block HZ1.out (b2f.block _ (by omega))
 clear k1 b2 b2f o1 HZ1 hq B1
 obtain ⟨bw, br, rfl, hW, hR, hne, b1', b2', b3', b4'⟩ := zks rfl g6 o2
 clear o2
 go_wp2_with fail
 refine (zp7 w1.heap.size bw ws.length ws sm toh top cyc sn old cp sr a2 c2 rs ws1 T1 n1 br y _ HP2.out hW hR (by omega) (by omega) (by omega) hne (Nat.le_refl _) HFN.out HST.out HYY.out HHH.out h1 h2 HE3.out h4 hrl HFF.out HLN.out).mono ?_
 rintro e w3 ⟨rfl, hA3, hW3, hR3, hK3⟩
 have HW3 : Hid (RwW w3 bw ws3) := hW3
 have HR3 : Hid (zbm w3 a2 br rs.length (zg S' ⟨ws1, S', 0⟩ y rs.length).2) := hR3
 have Z3 := HZ2.out.of_block (hK3.block _ HZ2.out.lt (by simp; omega))
 obtain ⟨d0, d1, d2, d3, d4, d5, d6, d7, d8, d9⟩ := zd3 Z3 rfl rfl rfl rfl rfl rfl rfl rfl rfl rfl
 simp at d0 d1 d2 d3 d4 d5 d6 d7 d8 d9
 have ef := World.rowIs.frozen Z3
 have z3 : w1.heap.size < w3.heap.size := Nat.lt_of_lt_of_le z2 hK3.size
 have HB3 : Hid (Below w.heap.size w w3) := B2.trans (hK3.below (fun x hx => by simp at hx; omega) (by omega))
 have KA3 := zk hA3 rfl
 clear hA3 hW3 hR3 hK3 hW hR Z3 HZ2 k2 p2 B2 HQ HS HR HP2 HFN HST HYY HHH HFF HLN HE3
 go_wp2
 have q0 : (w3.cell? ⟨w.heap.size + 1, 0, none⟩).isSome = true := by rw [d0]; rfl
 have q1 : (w3.cell? ⟨w.heap.size + 1, 1, none⟩).isSome = true := by rw [d1]; rfl
 have q2 : (w3.cell? ⟨w.heap.size + 1, 2, none⟩).isSome = true := by rw [d2]; rfl
 have q3 : (w3.cell? ⟨w.heap.size + 1, 3, none⟩).isSome = true := by rw [d3]; rfl
 have q4 : (w3.cell? ⟨w.heap.size + 1, 4, none⟩).isSome = true := by rw [d4]; rfl
 have q5 : (w3.cell? ⟨w.heap.size + 1, 5, none⟩).isSome = true := by rw [d5]; rfl
 have q6 : (w3.cell? ⟨w.heap.size + 1, 6, none⟩).isSome = true := by rw [d6]; rfl
 have q7 : (w3.cell? ⟨w.heap.size + 1, 7, none⟩).isSome = true := by rw [d7]; rfl
 have q8 : (w3.cell? ⟨w.heap.size + 1, 8, none⟩).isSome = true := by rw [d8]; rfl
 have q9 : (w3.cell? ⟨w.heap.size + 1, 9, none⟩).isSome = true := by rw [d9]; rfl
 refine bodyPost_ret (v := .tuple #[.agg #[.slice (some ⟨bw, 0, none⟩) ws.length ws.length, .int .i64 sm, .int .i64 (1 - toh), .int .i64 (T3 : Int), .bool false, .int .i64 0, .int .i64 0, .int .i64 0, .int .i64 sr, .slice a2 rs.length c2], .bool true]) (by simp [results, Tryz.results57, go_sem, q0, q1, q2, q3, q4, q5, q6, q7, q8, q9]) rfl ⟨.slice (some ⟨bw, 0, none⟩) ws.length ws.length, .slice a2 rs.length c2, rfl, ?_, ?_⟩
 · refine zof HLL.out (Rw.of_block HW3.out (zaa (by omega))) ?_ hne (by omega) (by simp; omega) (by omega) (by simp; omega)
   exact zfj HR3.out (fun _ => zaa (by omega))
 · exact zdv HB3.out (by omega)
set_option maxHeartbeats 2000000 in
theorem zjo (aw : Option Addr) (cw : Nat) (ws : List Int) (sm toh top : Int) (cyc : Bool) (sn old cp sr : Int) (ar : Option Addr) (cr : Nat) (rs : List (Int × Int))  (y : Nat -> Int) (Tr : Nat) (w : World) (hs : Sl w (.slice aw ws.length cw) ws) (hn : ws.length <= 1048576) (hw : zh ws) (hrt : SlF Tr w (.slice ar rs.length cr) rs.length (2 * rs.length) (fun i => .int .i64 (y i))) (hn2 : rs.length <= 1048576) (hok : ¬ zdk ws sm toh top cyc sn old cp sr y rs.length) :
 Calls Tryz.prog 56 #[.agg #[.slice aw ws.length cw, .int .i64 sm, .int .i64 toh, .int .i64 top, .bool cyc, .int .i64 sn, .int .i64 old, .int .i64 cp, .int .i64 sr, .slice ar rs.length cr]] w fun e w' => ∃ vw vr, e = .returned (.tuple #[.agg #[vw, .int .i64 sm, .int .i64 toh, .int .i64 top, .bool cyc, .int .i64 sn, .int .i64 old, .int .i64 cp, .int .i64 sr, vr], .bool false]) /\ zb7 w.heap.size w'.heap.size w' vw vr ws.length rs.length (za ws) y /\ Below w.heap.size w w' := by
 have HS : Hid (Sl w (.slice aw ws.length cw) ws) := hs
 have HR : Hid (SlF w.heap.size w (.slice ar rs.length cr) rs.length (2 * rs.length) (fun i => .int .i64 (y i))) := hrt.here
 have HQ : Hid (¬ zdk ws sm toh top cyc sn old cp sr y rs.length) := hok
 clear hs hrt hok
 go_enter Tryz.func56, Tryz.ntmps56
 go_wp2_with fail
 refine (zgz _ _ _ _ _ _ _ _ _ _ _ _ _ _ y w.heap.size _ (HS.out.below (zq (Below.refl _ _))) hn hw (HR.out.below (zq (Below.refl _ _)) (Nat.le_refl _)) hn2).mono ?_
 rintro e w1 ⟨q, rfl, hq, b1⟩
 obtain rfl : q = false := by
  cases q with
  | false => rfl
  | true => exact absurd (hq.1 rfl) HQ.out
 have B1 := zq b1
 have l1 : w.heap.size + 1 < w1.heap.size := by have := b1.size; simp at this; omega
 obtain ⟨RA, hres⟩ := zdi (n := 10) b1 (by simp) rfl rfl
 have k1 := zk RA rfl
 have Z1 : w1.rowIs (w.heap.size + 1) 30 10 (fun i => (#[.slice none 0 0, .int .i64 0, .int .i64 0, .int .i64 0, .bool false, .int .i64 0, .int .i64 0, .int .i64 0, .int .i64 0, .slice none 0 0] : Array Value).getD i (.bool false)) := hres
 clear b1 hres hq RA
 go_wp2_with fail
 refine (zlo _ _ _ _ _ _ _ _ _ _ _ _ _ _ y w.heap.size _ (HS.out.below B1) hn (HR.out.below B1 (Nat.le_refl _)) hn2).mono ?_
 rintro e w2 ⟨vw, vr, rfl, o2, b2⟩
 obtain ⟨a1, c1, rfl⟩ := o2.sl.1.head
 obtain ⟨a2, c2, rfl⟩ := o2.sl.2.head
 have Z2 := Z1.of_block (b2.block _ Z1.lt)
 have HZ2 : Hid (w2.rowIs (w.heap.size + 1) 30 10 (fun i => (#[.slice none 0 0, .int .i64 0, .int .i64 0, .int .i64 0, .bool false, .int .i64 0, .int .i64 0, .int .i64 0, .int .i64 0, .slice none 0 0] : Array Value).getD i (.bool false))) := Z2
 have B2 := zc B1 b2
 have z2 : w1.heap.size <= w2.heap.size := b2.size
 clear b2 Z1 Z2 k1
 obtain ⟨d0, d1, d2, d3, d4, d5, d6, d7, d8, d9⟩ := zd3 HZ2.out rfl rfl rfl rfl rfl rfl rfl rfl rfl rfl
 simp at d0 d1 d2 d3 d4 d5 d6 d7 d8 d9
 have ef := World.rowIs.frozen HZ2.out
 have HO : Hid (zb7 w1.heap.size w2.heap.size w2 (.slice a1 ws.length c1) (.slice a2 rs.length c2) ws.length rs.length (za ws) y) := o2
 have HB : Hid (Below w.heap.size w w2) := B2
 clear o2 B2 HZ2
 go_wp2
 have q0 : (w2.cell? ⟨w.heap.size + 1, 0, none⟩).isSome = true := by rw [d0]; rfl
 have q1 : (w2.cell? ⟨w.heap.size + 1, 1, none⟩).isSome = true := by rw [d1]; rfl
 have q2 : (w2.cell? ⟨w.heap.size + 1, 2, none⟩).isSome = true := by rw [d2]; rfl
 have q3 : (w2.cell? ⟨w.heap.size + 1, 3, none⟩).isSome = true := by rw [d3]; rfl
 have q4 : (w2.cell? ⟨w.heap.size + 1, 4, none⟩).isSome = true := by rw [d4]; rfl
 have q5 : (w2.cell? ⟨w.heap.size + 1, 5, none⟩).isSome = true := by rw [d5]; rfl
 have q6 : (w2.cell? ⟨w.heap.size + 1, 6, none⟩).isSome = true := by rw [d6]; rfl
 have q7 : (w2.cell? ⟨w.heap.size + 1, 7, none⟩).isSome = true := by rw [d7]; rfl
 have q8 : (w2.cell? ⟨w.heap.size + 1, 8, none⟩).isSome = true := by rw [d8]; rfl
 have q9 : (w2.cell? ⟨w.heap.size + 1, 9, none⟩).isSome = true := by rw [d9]; rfl
 refine bodyPost_ret (v := .tuple #[.agg #[.slice a1 ws.length c1, .int .i64 sm, .int .i64 toh, .int .i64 top, .bool cyc, .int .i64 sn, .int .i64 old, .int .i64 cp, .int .i64 sr, .slice a2 rs.length c2], .bool false]) (by simp [results, Tryz.results56, go_sem, q0, q1, q2, q3, q4, q5, q6, q7, q8, q9]) rfl ⟨_, _, rfl, ?_, ?_⟩
 · obtain ⟨u1, t1, u2, t2, h1, h2, h3, h4, h5, h6, h7⟩ := HO.out
   exact ⟨u1, t1, u2, t2, by omega, by simp; omega, by omega, by simp; omega, h5, zen h6 (by omega), zen h7 (by omega)⟩
 · exact zdv HB.out (by omega)
set_option maxHeartbeats 2000000 in
theorem zjp (aw : Option Addr) (cw : Nat) (ws : List Int) (sm toh top : Int) (cyc : Bool) (sn old cp sr : Int) (ar : Option Addr) (cr : Nat) (rs : List (Int × Int)) {ws1 : List Int} {T1 n1 S E S' E' : Nat} {L : List Nat} {ws3 : List Int} {T3 n3 : Nat} (y : Nat -> Int) (Tr : Nat) (w : World) (hs : Sl w (.slice aw ws.length cw) ws) (hn : ws.length <= 1048576) (hw : zh ws) (hrt : SlF Tr w (.slice ar rs.length cr) rs.length (2 * rs.length) (fun i => .int .i64 (y i))) (hn2 : rs.length <= 1048576) (hok : zdk ws sm toh top cyc sn old cp sr y rs.length) (h : Fin ws sm toh top cyc sn old cp ws1 T1 n1) (hSt : zc9 ws1 S T1 E L) (hy : zbj y rs.length L) (hH : zat sm (1 - toh) S' E' S T1) (h1 : E' <= S \/ T1 <= S') (h2 : S' + (T1 - S) <= E') (h3 : E' <= ws1.length) (h4 : 1 <= S') (hrl : rs.length <= 24) (g6 : 0 < ws.length) (hF : Fin (zg S' ⟨ws1, S', 0⟩ y rs.length).1.ws sm (1 - toh) ((zg S' ⟨ws1, S', 0⟩ y rs.length).1.T : Int) (ovB S' (zg S' ⟨ws1, S', 0⟩ y rs.length).1.T) (ovI S' (zg S' ⟨ws1, S', 0⟩ y rs.length).1.T (S' : Int)) (ovI S' (zg S' ⟨ws1, S', 0⟩ y rs.length).1.T (T1 : Int)) (ovI S' (zg S' ⟨ws1, S', 0⟩ y rs.length).1.T ((zg S' ⟨ws1, S', 0⟩ y rs.length).1.C : Int)) ws3 T3 n3) (hlN : (zg S' ⟨ws1, S', 0⟩ y rs.length).1.ws.length = ws1.length) :
 Calls Tryz.prog 56 #[.agg #[.slice aw ws.length cw, .int .i64 sm, .int .i64 toh, .int .i64 top, .bool cyc, .int .i64 sn, .int .i64 old, .int .i64 cp, .int .i64 sr, .slice ar rs.length cr]] w fun e w' => ∃ vw vr, e = .returned (.tuple #[.agg #[vw, .int .i64 sm, .int .i64 (1 - toh), .int .i64 (T3 : Int), .bool false, .int .i64 0, .int .i64 0, .int .i64 0, .int .i64 sr, vr], .bool true]) /\ zb7 w.heap.size w'.heap.size w' vw vr ws.length rs.length (za ws3) (zg S' ⟨ws1, S', 0⟩ y rs.length).2 /\ Below w.heap.size w w' := by
 have HS : Hid (Sl w (.slice aw ws.length cw) ws) := hs
 have HR : Hid (SlF w.heap.size w (.slice ar rs.length cr) rs.length (2 * rs.length) (fun i => .int .i64 (y i))) := hrt.here
 have HQ : Hid (zdk ws sm toh top cyc sn old cp sr y rs.length) := hok
 have HFN : Hid (Fin ws sm toh top cyc sn old cp ws1 T1 n1) := h
 have HST : Hid (zc9 ws1 S T1 E L) := hSt
 have HYY : Hid (zbj y rs.length L) := hy
 have HHH : Hid (zat sm (1 - toh) S' E' S T1) := hH
 have HFF : Hid (Fin (zg S' ⟨ws1, S', 0⟩ y rs.length).1.ws sm (1 - toh) ((zg S' ⟨ws1, S', 0⟩ y rs.length).1.T : Int) (ovB S' (zg S' ⟨ws1, S', 0⟩ y rs.length).1.T) (ovI S' (zg S' ⟨ws1, S', 0⟩ y rs.length).1.T (S' : Int)) (ovI S' (zg S' ⟨ws1, S', 0⟩ y rs.length).1.T (T1 : Int)) (ovI S' (zg S' ⟨ws1, S', 0⟩ y rs.length).1.T ((zg S' ⟨ws1, S', 0⟩ y rs.length).1.C : Int)) ws3 T3 n3) := hF
 have HLN : Hid ((zg S' ⟨ws1, S', 0⟩ y rs.length).1.ws.length = ws1.length) := hlN
 have HLL : Hid (ws3.length = ws.length) := by show _ = _; rw [hF.len, hlN, h.len]
 have HE3 : Hid (E' <= ws1.length) := h3
 clear h hSt hy hH hF hlN h3
 clear hs hrt hok
 go_enter Tryz.func56, Tryz.ntmps56
 go_wp2_with fail
 refine (zgz _ _ _ _ _ _ _ _ _ _ _ _ _ _ y w.heap.size _ (HS.out.below (zq (Below.refl _ _))) hn hw (HR.out.below (zq (Below.refl _ _)) (Nat.le_refl _)) hn2).mono ?_
 rintro e w1 ⟨q, rfl, hq, b1⟩
 obtain rfl := hq.2 HQ.out
 have B1 := zq b1
 have l1 : w.heap.size + 1 < w1.heap.size := by have := b1.size; simp at this; omega
 obtain ⟨RA, hres⟩ := zdi (n := 10) b1 (by simp) rfl rfl
 have k1 := zk RA rfl
 have Z1 : w1.rowIs (w.heap.size + 1) 30 10 (fun i => (#[.slice none 0 0, .int .i64 0, .int .i64 0, .int .i64 0, .bool false, .int .i64 0, .int .i64 0, .int .i64 0, .int .i64 0, .slice none 0 0] : Array Value).getD i (.bool false)) := hres
 clear b1 hres hq RA
 go_wp2_with fail
 refine (zlo _ _ _ _ _ _ _ _ _ _ _ _ _ _ y w.heap.size _ (HS.out.below B1) hn (HR.out.below B1 (Nat.le_refl _)) hn2).mono ?_
 rintro e w2 ⟨vw, vr, rfl, o2, b2⟩
 obtain ⟨a1, c1, rfl⟩ := o2.sl.1.head
 obtain ⟨a2, c2, rfl⟩ := o2.sl.2.head
 have Z2 := Z1.of_block (b2.block _ Z1.lt)
 have HZ2 : Hid (w2.rowIs (w.heap.size + 1) 30 10 (fun i => (#[.slice none 0 0, .int .i64 0, .int .i64 0, .int .i64 0, .bool false, .int .i64 0, .int .i64 0, .int .i64 0, .int .i64 0, .slice none 0 0] : Array Value).getD i (.bool false))) := Z2
 have B2 := zc B1 b2
 have z2 : w1.heap.size <= w2.heap.size := b2.size
 clear b2 Z1 Z2 k1
 obtain ⟨bw, br, rfl, hW, hR, hne, b1', b2', b3', b4'⟩ := zks rfl g6 o2
 clear o2
 go_wp2_with fail
 refine (zl9 bw c1 ws sm toh top cyc sn old cp sr a2 c2 rs ws1 T1 n1 br y _ hW hR (by omega) hne HFN.out HST.out HYY.out HHH.out h1 h2 HE3.out h4 hrl HFF.out HLN.out).mono ?_
 rintro e w3 ⟨rfl, hW3, hR3, hK3⟩
 have HW3 : Hid (RwW w3 bw ws3) := hW3
 have HR3 : Hid (zbm w3 a2 br rs.length (zg S' ⟨ws1, S', 0⟩ y rs.length).2) := hR3
 have HZ3 : Hid (w3.rowIs (w.heap.size + 1) 30 10 (fun i => (#[.slice none 0 0, .int .i64 0, .int .i64 0, .int .i64 0, .bool false, .int .i64 0, .int .i64 0, .int .i64 0, .int .i64 0, .slice none 0 0] : Array Value).getD i (.bool false))) := HZ2.out.of_block (hK3.block _ HZ2.out.lt (by simp; omega))
 have z3 : w2.heap.size <= w3.heap.size := hK3.size
 have HB3 : Hid (Below w.heap.size w w3) := B2.trans (hK3.below (fun x hx => by simp at hx; omega) (by omega))
 obtain ⟨d0, d1, d2, d3, d4, d5, d6, d7, d8, d9⟩ := zd3 HZ3.out rfl rfl rfl rfl rfl rfl rfl rfl rfl rfl
 simp at d0 d1 d2 d3 d4 d5 d6 d7 d8 d9
 have ef := World.rowIs.frozen HZ3.out
 clear hW3 hR3 hK3 hW hR HZ2 HZ3 B2 HQ HS HR HFN HST HYY HHH HFF HLN HE3
 go_wp2
 have q0 : (w3.cell? ⟨w.heap.size + 1, 0, none⟩).isSome = true := by rw [d0]; rfl
 have q1 : (w3.cell? ⟨w.heap.size + 1, 1, none⟩).isSome = true := by rw [d1]; rfl
 have q2 : (w3.cell? ⟨w.heap.size + 1, 2, none⟩).isSome = true := by rw [d2]; rfl
 have q3 : (w3.cell? ⟨w.heap.size + 1, 3, none⟩).isSome = true := by rw [d3]; rfl
 have q4 : (w3.cell? ⟨w.heap.size + 1, 4, none⟩).isSome = true := by rw [d4]; rfl
 have q5 : (w3.cell? ⟨w.heap.size + 1, 5, none⟩).isSome = true := by rw [d5]; rfl
 have q6 : (w3.cell? ⟨w.heap.size + 1, 6, none⟩).isSome = true := by rw [d6]; rfl
 have q7 : (w3.cell? ⟨w.heap.size + 1, 7, none⟩).isSome = true := by rw [d7]; rfl
 have q8 : (w3.cell? ⟨w.heap.size + 1, 8, none⟩).isSome = true := by rw [d8]; rfl
 have q9 : (w3.cell? ⟨w.heap.size + 1, 9, none⟩).isSome = true := by rw [d9]; rfl
 refine bodyPost_ret (v := .tuple #[.agg #[.slice (some ⟨bw, 0, none⟩) ws.length c1, .int .i64 sm, .int .i64 (1 - toh), .int .i64 (T3 : Int), .bool false, .int .i64 0, .int .i64 0, .int .i64 0, .int .i64 sr, .slice a2 rs.length c2], .bool true]) (by simp [results, Tryz.results56, go_sem, q0, q1, q2, q3, q4, q5, q6, q7, q8, q9]) rfl ⟨.slice (some ⟨bw, 0, none⟩) ws.length c1, .slice a2 rs.length c2, rfl, ?_, ?_⟩
 · refine zof HLL.out (Rw.of_block HW3.out (zaa (by omega))) ?_ hne (by omega) (by simp; omega) (by omega) (by simp; omega)
   exact zfj HR3.out (fun _ => zaa (by omega))
 · exact zdv HB3.out (by omega)
set_option maxHeartbeats 4000000 in
theorem zfs (aw : Option Addr) (cw : Nat) (ws : List Int) (sm toh top : Int) (cyc : Bool) (sn old cp sr : Int) (ar : Option Addr) (cr : Nat) (rs : List (Int × Int))  (y : Nat -> Int) (Tr : Nat) (w : World) (semj tohj topj : Int) (cycj : Bool) (scanj oldj copiedj serialj : Int) (n m : Nat) (z yj : Nat -> Int) (q : Bool) (hnn : ws.length <= 1048576 -> rs.length <= 1048576 -> n <= 1048576) (hmm : ws.length <= 1048576 -> rs.length <= 1048576 -> m <= 1048576) (hs : Sl w (.slice aw ws.length cw) ws) (hrt : SlF Tr w (.slice ar rs.length cr) rs.length (2 * rs.length) (fun i => .int .i64 (y i))) (hl1 : ws.length <= 9223372036854775807) (hl2 : rs.length <= 9223372036854775807)
 (hspec : ws.length <= 1048576 -> rs.length <= 1048576 -> ∀ (aw : Option Addr) (cw : Nat) (ar : Option Addr) (cr : Nat) (W : World) (T : Nat), Sl W (.slice aw ws.length cw) ws -> SlF T W (.slice ar rs.length cr) rs.length (2 * rs.length) (fun i => .int .i64 (y i)) -> Calls Tryz.prog 56 #[.agg #[.slice aw ws.length cw, .int .i64 sm, .int .i64 toh, .int .i64 top, .bool cyc, .int .i64 sn, .int .i64 old, .int .i64 cp, .int .i64 sr, .slice ar rs.length cr]] W fun e w' => ∃ vw vr, e = .returned (.tuple #[.agg #[vw, .int .i64 semj, .int .i64 tohj, .int .i64 topj, .bool cycj, .int .i64 scanj, .int .i64 oldj, .int .i64 copiedj, .int .i64 serialj, vr], .bool q]) /\ zb7 W.heap.size w'.heap.size w' vw vr n m z yj /\ Below W.heap.size W w')
 (himpl : ws.length <= 1048576 -> rs.length <= 1048576 -> ∀ (aw : Option Addr) (cw : Nat) (ar : Option Addr) (cr : Nat) (W : World) (T : Nat), Sl W (.slice aw ws.length cw) ws -> ws.length <= cw -> SlF T W (.slice ar rs.length cr) rs.length (2 * rs.length) (fun i => .int .i64 (y i)) -> Calls Tryz.prog 57 #[.agg #[.slice aw ws.length cw, .int .i64 sm, .int .i64 toh, .int .i64 top, .bool cyc, .int .i64 sn, .int .i64 old, .int .i64 cp, .int .i64 sr, .slice ar rs.length cr]] W fun e w' => ∃ vw vr, e = .returned (.tuple #[.agg #[vw, .int .i64 semj, .int .i64 tohj, .int .i64 topj, .bool cycj, .int .i64 scanj, .int .i64 oldj, .int .i64 copiedj, .int .i64 serialj, vr], .bool q]) /\ zb7 W.heap.size w'.heap.size w' vw vr n m z yj /\ Below W.heap.size W w') :
 Calls Tryz.prog 16 #[.agg #[.slice aw ws.length cw, .int .i64 sm, .int .i64 toh, .int .i64 top, .bool cyc, .int .i64 sn, .int .i64 old, .int .i64 cp, .int .i64 sr, .slice ar rs.length cr]] w fun e w' => e = .returned (.bool true) /\ Below w.heap.size w w' := by
 by_cases h : (ws.length : Int) + rs.length <= 1048576
 · have hn : ws.length <= 1048576 := by omega
   have hn2 : rs.length <= 1048576 := by omega
   have h0 : ¬ (1048576 - (ws.length : Int) - rs.length) < 0 := by omega
   have hnn := hnn hn hn2
   have hmm := hmm hn hn2
   have k0 : ¬ (1 + (n : Int) + 2 * m) < 0 := by omega
   have k0' : ¬ (1 + (ws.length : Int) + 2 * rs.length) < 0 := by omega
   have HSZ : ∀ W, _ := fun W => ziw aw ws.length cw sm toh top cyc sn old cp sr ar rs.length cr W hl1 hl2
   rw [if_pos h] at HSZ
   have HTA : Hid (∀ W, Below w.heap.size w W -> _) := fun W (hW : Below w.heap.size w W) => zpi aw cw ws sm toh top cyc sn old cp sr ar cr rs y w.heap.size W (hs.below hW) hn (hrt.here.below hW (Nat.le_refl _)) hn2
   have HSP : Hid _ := hspec hn hn2
   have HIM : Hid _ := himpl hn hn2
   clear hs hrt h hl1 hl2 hspec himpl
   go_enter Tryz.func16, Tryz.ntmps16
   go_wp2_with fail
   refine (HSZ _).mono ?_
   rintro e w1 ⟨rfl, b1⟩
   have B1 := zd b1
   have k1 := zt b1 (by simp)
   have z1 := zu b1
   clear b1
   go_wp2_with fail
   refine (HTA.out _ B1).mono ?_
   rintro e w2 ⟨x1, x2, rfl, o2, b2⟩
   have B2 := zc B1 b2
   have k2 := ze k1 b2 z1
   have z2 := Nat.lt_of_lt_of_le z1 b2.size
   obtain ⟨s2, r2⟩ := zjl o2
   clear b2 k1 o2
   go_wp2_with fail
   refine (HSP.out (some ⟨x1, 0, none⟩) ws.length (some ⟨x2, 0, none⟩) rs.length _ _ s2 r2).mono ?_
   rintro e w3 ⟨vw, vr, rfl, o3, b3⟩
   obtain ⟨a1, c1, rfl⟩ := o3.sl.1.head
   obtain ⟨a2, c2, rfl⟩ := o3.sl.2.head
   have B3 := zc B2 b3
   have k3 := ze k2 b3 z2
   have z3 := Nat.lt_of_lt_of_le z2 b3.size
   clear b3 k2 s2 r2
   have B3' := zev (o := .cells #[.slice a1 n c1, .int .i64 semj, .int .i64 tohj, .int .i64 topj, .bool cycj, .int .i64 scanj, .int .i64 oldj, .int .i64 copiedj, .int .i64 serialj, .slice a2 m c2] 30) B3
   go_wp2_with fail
   refine (HTA.out _ B3').mono ?_
   rintro e w4 ⟨x3, x4, rfl, o4, b4⟩
   simp only [World.size_alloc] at o4
   have B4 := zc B3' b4
   have k4 := ze (ze k3 ((Below.refl w3.heap.size w3).alloc (Nat.le_refl _) _) z3) b4 (by simp; omega)
   have q4 := zt b4 (by simp)
   have z4 : w3.heap.size < w4.heap.size := zu b4
   have S4 := o3.sl.1.below (zd b4) (Nat.le_refl _)
   have R4 := o3.sl.2.below (zd b4) (Nat.le_refl _)
   clear k3 b4 o3 B3'
   have A4 : Below w4.heap.size w4 (w4.alloc (.cells #[.slice (some ⟨x3, 0, none⟩) ws.length ws.length, .int .i64 sm, .int .i64 toh, .int .i64 top, .bool cyc, .int .i64 sn, .int .i64 old, .int .i64 cp, .int .i64 sr, .slice (some ⟨x4, 0, none⟩) rs.length rs.length] 30)) := (Below.refl _ _).alloc (Nat.le_refl _) _
   obtain ⟨s4, r4⟩ := zjl (o4.below A4 (Nat.le_refl _))
   go_wp2_with fail
   refine (HIM.out (some ⟨x3, 0, none⟩) ws.length (some ⟨x4, 0, none⟩) rs.length _ _ s4 (Nat.le_refl _) r4).mono ?_
   rintro e w5 ⟨vw, vr, rfl, o5, b5⟩
   obtain ⟨a3, c3, rfl⟩ := o5.sl.1.head
   obtain ⟨a4, c4, rfl⟩ := o5.sl.2.head
   have b5f := zd b5
   have B5 := zc (zev B4) b5
   have k5 := ze k4 b5f (by omega)
   have q5 := ze q4 b5f z4
   have p5 := zt b5 (by simp)
   have z5 : w4.heap.size < w5.heap.size := zu b5
   have z35 : w3.heap.size < w5.heap.size := by omega
   have o4' := o4.below b5f (Nat.le_refl _)
   have S5 := S4.below b5f (by omega)
   have R5 := R4.below b5f (by omega)
   clear k4 q4 b5 b5f o4 S4 R4 A4 s4 r4
   have A5 : Below w5.heap.size w5 (w5.alloc (.cells #[.slice a3 n c3, .int .i64 semj, .int .i64 tohj, .int .i64 topj, .bool cycj, .int .i64 scanj, .int .i64 oldj, .int .i64 copiedj, .int .i64 serialj, .slice a4 m c4] 30)) := (Below.refl _ _).alloc (Nat.le_refl _) _
   simp only [World.size_alloc] at o5
   go_wp2_with fail
   refine (ze1 _ _ _ _ _ _ _ _ n m z yj _ _ _ _ _ _ _ _ _ (o5.sl.1.below A5 (Nat.le_refl _)) (S5.below A5 (by omega)) hnn (o5.sl.2.below A5 (Nat.le_refl _)) (R5.below A5 (by omega)) hmm).mono ?_
   rintro e w6 ⟨rfl, b6⟩
   have b6f := zd b6
   have B6 := zc B5 b6f
   have k6 := ze k5 b6f (by omega)
   have q6 := ze q5 b6f (by omega)
   have p6 := ze p5 b6f (by omega)
   have g6 := zt b6 (by simp)
   have z6 : w5.heap.size < w6.heap.size := zu b6
   have o6 := o5.below b6f (Nat.le_refl _)
   have ox := o4'.below b6f (by omega)
   have S6 := S5.below b6f (by omega)
   have R6 := R5.below b6f (by omega)
   clear k5 q5 p5 b6 b6f o5 o4' S5 R5 A5
   go_wp2_with fail
   have KP : ∀ V, Below w6.heap.size w6 V -> (Below w6.heap.size w6 V /\ (∀ i, V.cell? ⟨w.heap.size, i, none⟩ = (#[.slice aw ws.length cw, .int .i64 sm, .int .i64 toh, .int .i64 top, .bool cyc, .int .i64 sn, .int .i64 old, .int .i64 cp, .int .i64 sr, .slice ar rs.length cr] : Array Value)[i]?) /\ (∀ i, V.cell? ⟨w4.heap.size, i, none⟩ = (#[.slice (some ⟨x3, 0, none⟩) ws.length ws.length, .int .i64 sm, .int .i64 toh, .int .i64 top, .bool cyc, .int .i64 sn, .int .i64 old, .int .i64 cp, .int .i64 sr, .slice (some ⟨x4, 0, none⟩) rs.length rs.length] : Array Value)[i]?)) := fun V hV => ⟨hV, ze k6 hV (by omega), ze p6 hV (by omega)⟩
   have b6' := (Below.refl w6.heap.size w6).drew
   have HK : Hid (∀ V, Below w6.heap.size w6 V -> (∀ i, V.cell? ⟨w.heap.size, i, none⟩ = (#[.slice aw ws.length cw, .int .i64 sm, .int .i64 toh, .int .i64 top, .bool cyc, .int .i64 sn, .int .i64 old, .int .i64 cp, .int .i64 sr, .slice ar rs.length cr] : Array Value)[i]?) /\ (∀ i, V.cell? ⟨w3.heap.size, i, none⟩ = (#[.slice a1 n c1, .int .i64 semj, .int .i64 tohj, .int .i64 topj, .bool cycj, .int .i64 scanj, .int .i64 oldj, .int .i64 copiedj, .int .i64 serialj, .slice a2 m c2] : Array Value)[i]?) /\ (∀ i, V.cell? ⟨w4.heap.size, i, none⟩ = (#[.slice (some ⟨x3, 0, none⟩) ws.length ws.length, .int .i64 sm, .int .i64 toh, .int .i64 top, .bool cyc, .int .i64 sn, .int .i64 old, .int .i64 cp, .int .i64 sr, .slice (some ⟨x4, 0, none⟩) rs.length rs.length] : Array Value)[i]?) /\ (∀ i, V.cell? ⟨w5.heap.size, i, none⟩ = (#[.slice a3 n c3, .int .i64 semj, .int .i64 tohj, .int .i64 topj, .bool cycj, .int .i64 scanj, .int .i64 oldj, .int .i64 copiedj, .int .i64 serialj, .slice a4 m c4] : Array Value)[i]?)) := fun V hV => ⟨ze k6 hV (by omega), ze q6 hV (by omega), ze p6 hV (by omega), ze g6 hV (by omega)⟩
   have F6 := ox.sl.1
   have R6' := ox.sl.2
   have HS6 : Hid (SlF w3.heap.size w6 (.slice a1 n c1) n n (fun i => .int .u64 (z i))) := S6
   have HR6 : Hid (SlF w3.heap.size w6 (.slice a2 m c2) m (2 * m) (fun i => .int .i64 (yj i))) := R6
   have Ho6 : Hid (zb7 (w4.heap.size + 1) w5.heap.size w6 (.slice a3 n c3) (.slice a4 m c4) n m z yj) := o6
   have Hox : Hid (zb7 (w3.heap.size + 1) w4.heap.size w6 (.slice (some ⟨x3, 0, none⟩) ws.length ws.length) (.slice (some ⟨x4, 0, none⟩) rs.length rs.length) ws.length rs.length (za ws) y) := ox
   clear k6 q6 p6 g6 HSZ HSP S6 R6 o6 ox
   go_region_held3 (fun V => Below w6.heap.size w6 V /\ (∀ i, V.cell? ⟨w.heap.size, i, none⟩ = (#[.slice aw ws.length cw, .int .i64 sm, .int .i64 toh, .int .i64 top, .bool cyc, .int .i64 sn, .int .i64 old, .int .i64 cp, .int .i64 sr, .slice ar rs.length cr] : Array Value)[i]?) /\ (∀ i, V.cell? ⟨w4.heap.size, i, none⟩ = (#[.slice (some ⟨x3, 0, none⟩) ws.length ws.length, .int .i64 sm, .int .i64 toh, .int .i64 top, .bool cyc, .int .i64 sn, .int .i64 old, .int .i64 cp, .int .i64 sr, .slice (some ⟨x4, 0, none⟩) rs.length rs.length] : Array Value)[i]?)) (first | assumption | exact KP _ b6' | exact KP _ (by assumption)) (first | (go_at_call 22; refine (HTA.out _ (zc B6 (And.left (by assumption)))).mono ?_; rintro e w7 ⟨x5, x6, rfl, o7, bb⟩; have hB7 := zc (w := w6) (And.left (by assumption)) bb; clear bb) | (go_at_call 24; refine (ze1 _ _ _ _ _ _ _ _ ws.length rs.length (za ws) y _ _ _ _ _ _ _ _ _ (F6.below hB7 (by omega)) o7.sl.1 hn (R6'.below hB7 (by omega)) o7.sl.2 hn2).mono ?_; rintro e w8 ⟨rfl, bb⟩; have hB8 := zc (w := w6) hB7 bb; clear bb))
   all_goals
    have B8 := zc B6 hB8
    obtain ⟨k8, q8, p8, g8⟩ := HK.out _ hB8
    have z8 := hB8.size
    have o8 := Ho6.out.below hB8 (by omega)
    have ox8 := Hox.out.below hB8 (by omega)
    have S8 := HS6.out.below hB8 (by omega)
    have R8 := HR6.out.below hB8 (by omega)
    clear HK KP hB7 hB8 o7 F6 R6' HS6 HR6 Ho6 Hox b6'
    obtain ⟨y1, t1, y2, t2, g1, g2, g3, g4, g5, gg6, g7⟩ := ox8
    go_wp2_with fail
    refine (zhr y1 t1 y2 t2 (w3.heap.size + 1) w4.heap.size _ _ ws.length rs.length (za ws) y _ _ _ _ _ _ _ _ _ gg6 hn g7 hn2 g5 (by omega) g2 (by omega) g4 (by omega)).mono ?_
    rintro e w9 ⟨rfl, _, _, A9⟩
    have k9 := zdr k8 A9 (by omega) (by omega)
    have q9 := zdr q8 A9 (by omega) (by omega)
    have g9 := zdr g8 A9 (by omega) (by omega)
    have S9 := S8.apart A9 (by omega)
    have R9 := R8.apart A9 (by omega)
    have zb := B3.size
    have B9 := B8.trans (A9.below (by omega) (by omega))
    have z9 := A9.size
    have o9 := zpj o8 A9 (by omega)
    clear k8 q8 p8 g8 S8 R8 A9 gg6 g7 o8
    go_wp2_with fail
    refine (ze1 _ _ _ _ _ _ _ _ n m z yj _ _ _ _ _ _ _ _ _ o9.sl.1 S9 hnn o9.sl.2 R9 hmm).mono ?_
    rintro e w10 ⟨rfl, b10⟩
    have B10 := zc B9 b10
    have z10 := b10.size
    have k10 := ze k9 b10 (by omega)
    have q10 := ze q9 b10 (by omega)
    have g10 := ze g9 b10 (by omega)
    have S10 := S9.below b10 (by omega)
    have R10 := R9.below b10 (by omega)
    have o10 := o9.below b10 (by omega)
    clear k9 q9 g9 S9 R9 o9 b10
    obtain ⟨u1, v1, u2, v2, i1, i2, i3, i4, i5, i6, i7⟩ := o10
    go_wp2_with fail
    refine (zhr u1 v1 u2 v2 (w4.heap.size + 1) w5.heap.size _ _ n m z yj _ _ _ _ _ _ _ _ _ i6 hnn i7 hmm i5 (by omega) i2 (by omega) i4 (by omega)).mono ?_
    rintro e w11 ⟨rfl, h11, r11, A11⟩
    have k11 := zdr k10 A11 (by omega) (by omega)
    have q11 := zdr q10 A11 (by omega) (by omega)
    have g11 := zdr g10 A11 (by omega) (by omega)
    have S11 := S10.apart A11 (by omega)
    have R11 := R10.apart A11 (by omega)
    have B11 := B10.trans (A11.below (by omega) (by omega))
    have z11 := A11.size
    clear k10 q10 g10 S10 R10 A11 i6 i7
    go_wp2_with fail
    refine (zhs _ _ _ _ n m _ _ _ _ _ _ _ _ _ h11.sl hnn r11.sl hmm).mono ?_
    rintro e w12 ⟨rfl, b12⟩
    have z12 := b12.size
    have k12 := ze k11 b12 (by omega)
    have q12 := ze q11 b12 (by omega)
    have g12 := ze g11 b12 (by omega)
    have h12 := h11.below b12 (by omega)
    have r12 := r11.below b12 (by omega)
    have S12 := S11.below b12 (by omega)
    have R12 := R11.below b12 (by omega)
    have B12 := zc B11 b12
    clear k11 q11 g11 h11 r11 S11 R11 b12
    go_wp2_with fail
    refine (HTA.out _ B12).mono ?_
    rintro e w13 ⟨x7, x8, rfl, o13, b13⟩
    have z13 := b13.size
    have q13 := ze q12 b13 (by omega)
    have g13 := ze g12 b13 (by omega)
    have h13 := h12.below b13 (by omega)
    have r13 := r12.below b13 (by omega)
    have S13 := S12.below b13 (by omega)
    have R13 := R12.below b13 (by omega)
    have B13 := zc B12 b13
    obtain ⟨s13, l13⟩ := zjl o13
    clear k12 q12 g12 h12 r12 S12 R12 b13 o13
    go_wp2_with fail
    refine (HIM.out (some ⟨x7, 0, none⟩) ws.length (some ⟨x8, 0, none⟩) rs.length _ _ s13 (Nat.le_refl _) l13).mono ?_
    rintro e w14 ⟨vw, vr, rfl, o14, b14⟩
    obtain ⟨a5, c5, rfl⟩ := o14.sl.1.head
    obtain ⟨a6, c6, rfl⟩ := o14.sl.2.head
    have z14 := b14.size
    have q14 := ze q13 b14 (by omega)
    have g14 := ze g13 b14 (by omega)
    have h14 := h13.below b14 (by omega)
    have r14 := r13.below b14 (by omega)
    have S14 := S13.below b14 (by omega)
    have R14 := R13.below b14 (by omega)
    have B14 := zc B13 b14
    clear q13 g13 h13 r13 S13 R13 b14 s13 l13
    have A14 : Below w14.heap.size w14 (w14.alloc (.cells #[.slice a5 n c5, .int .i64 semj, .int .i64 tohj, .int .i64 topj, .bool cycj, .int .i64 scanj, .int .i64 oldj, .int .i64 copiedj, .int .i64 serialj, .slice a6 m c6] 30)) := (Below.refl _ _).alloc (Nat.le_refl _) _
    have l5 : w3.heap.size < w14.heap.size := by omega
    have l7 : w5.heap.size < w14.heap.size := by omega
    go_wp2_with fail
    refine (ze1 _ _ _ _ _ _ _ _ n m z yj _ _ _ _ _ _ _ _ _ (o14.sl.1.below A14 (Nat.le_refl _)) (S14.below A14 (by omega)) hnn (o14.sl.2.below A14 (Nat.le_refl _)) (R14.below A14 (by omega)) hmm).mono ?_
    rintro e w15 ⟨rfl, b15⟩
    have z15 := zu b15
    have g15 := ze g14 (zd b15) (by omega)
    have h15 := h14.below (zd b15) (by omega)
    have r15 := r14.below (zd b15) (by omega)
    have B15 := zc B14 (zd b15)
    clear q14 g14 h14 r14 S14 R14 A14 b15 o14
    go_wp2_with fail
    refine (zhs _ _ _ _ n m _ _ _ _ _ _ _ _ _ h15.sl hnn r15.sl hmm).mono ?_
    rintro e w16 ⟨rfl, b16⟩
    have B16 := zc B15 b16
    go_wp2
    go_ret
    exact ⟨rfl, B16⟩
 · have HSZ : ∀ W, _ := fun W => ziw aw ws.length cw sm toh top cyc sn old cp sr ar rs.length cr W hl1 hl2
   rw [if_neg h] at HSZ
   clear hs hrt h hspec himpl
   go_enter Tryz.func16, Tryz.ntmps16
   go_wp2_with (go_at_call 20; refine (HSZ _).mono ?_; rintro e w1 ⟨rfl, b1⟩)
   go_ret
   exact ⟨rfl, zd b1⟩
end Go.Proofs.YtaapiedminakcaaGreat
