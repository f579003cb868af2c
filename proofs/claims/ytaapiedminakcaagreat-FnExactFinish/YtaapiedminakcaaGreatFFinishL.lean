/- - -/
import Derived.Test.YtaapiedminakcaaGreatFFnJ
namespace Go.Proofs.YtaapiedminakcaaGreat
set_option maxRecDepth 20000
open Go.RowKit
set_option linter.unusedSimpArgs false
set_option linter.unusedVariables false
theorem zn2 {B Tt : Nat} {w : World} {ar : Option Addr} {bw br cw cr m : Nat} {ws : List Int} {n : Nat} {y : Nat -> Int} (hn : ws.length = n) (hW : RwW w bw ws) (hR : zkh w ar br m y) (hne : 0 < m -> bw ≠ br) (h1 : B <= bw) (h2 : bw < Tt) (h3 : B <= br) (h4 : br < Tt) :
 zbi B Tt w (.slice (some ⟨bw, 0, none⟩) n cw) (.slice ar m cr) n m (za ws) y := by
 subst hn
 rcases hR with h | ⟨rfl, h⟩
 · exact ⟨bw, bw + 1, bw + 1, bw + 1, h1, h2, by omega, by omega, by omega, Rw.own hW (Nat.le_refl _) (by omega), ⟨_, _, rfl, .inl (by omega)⟩⟩
 · by_cases hm : 0 < m
   · have := hne hm
     exact ⟨bw, bw + 1, br, br + 1, h1, h2, h3, h4, by omega, Rw.own hW (Nat.le_refl _) (by omega), Rw.own h (Nat.le_refl _) (by omega)⟩
   · exact ⟨bw, bw + 1, bw + 1, bw + 1, h1, h2, by omega, by omega, by omega, Rw.own hW (Nat.le_refl _) (by omega), ⟨_, _, rfl, .inl (by omega)⟩⟩
theorem zfo {B Tt : Nat} {w : World} {a1 a2 : Option Addr} {c1 c2 n m : Nat} {ws : List Int} {y : Nat -> Int} (hn : ws.length = n) (h0 : 0 < n) (h : zbi B Tt w (.slice a1 n c1) (.slice a2 m c2) n m (za ws) y) :
 ∃ bw br, a1 = some ⟨bw, 0, none⟩ /\ RwW w bw ws /\ zkh w a2 br m y /\ (0 < m -> bw ≠ br) /\ B <= bw /\ bw < Tt /\ B <= br /\ br < Tt := by
 subst hn
 obtain ⟨u1, t1, u2, t2, h1, h2, h3, h4, h5, h6, h7⟩ := h
 obtain ⟨bw, cap, hv, k1, k2, k3⟩ := h6.rw' h0
 simp only [Value.slice.injEq] at hv
 obtain ⟨rfl, _, rfl⟩ := hv
 by_cases hm : 0 < m
 · obtain ⟨br, cap2, hv2, j1, j2, j3⟩ := h7.rw' (by omega)
   simp only [Value.slice.injEq] at hv2
   obtain ⟨rfl, _, rfl⟩ := hv2
   exact ⟨bw, br, rfl, k3, .inr ⟨rfl, j3⟩, fun _ => by omega, by omega, by omega, by omega, by omega⟩
 · exact ⟨bw, bw, rfl, k3, .inl (by omega), fun g => absurd g hm, by omega, by omega, by omega, by omega⟩
theorem zpt {ws : List Int} {sm toh top : Int} {sn old cp sr : Int} {y : Nat -> Int} {rl : Nat} (hw : zg ws) (hok : zc9 ws sm toh top true sn old cp sr y rl) :
 ∃ (S T E F Od sc C : Nat) (L O : List Nat), top = T /\ sn = sc /\ old = Od /\ cp = C /\ Cyc ⟨ws, T, C⟩ S E F Od sc 0 L O /\ zh5 y rl L /\ zby sm toh S E F Od /\ C <= T + 8000 /\ E <= 8000 /\ 0 < ws.length := by
 obtain ⟨s0, s1, hl, t0, t1, hrl, h1, h2, hold⟩ := zen hok.1
 obtain ⟨g1, g2, g3, g4, g5⟩ := zd9 s0 s1 hl t0 t1 h1 h2
 obtain ⟨a, b⟩ := hold rfl
 obtain ⟨o1, o2⟩ := g5 old a b
 have h3 : zev sm toh top old cp = true := by
  have := hok.1
  unfold zci at this
  simp only [if_true, Bool.and_eq_true] at this
  exact this.2
 have h3' := of_decide_eq_true h3
 unfold zb4 at h3'
 have hsc0 : 0 <= sn := by 
  obtain ⟨L, O, ht, _⟩ := hok.2
  obtain ⟨_, _, _, r4⟩ := ht.runs rfl
  rcases r4 with g | ⟨g6, g7, g⟩ <;> omega
 have hc : toh = 0 \/ toh = 1 := by omega
 obtain ⟨T, rfl⟩ := Int.eq_ofNat_of_zero_le (a := top) (by rcases hc with rfl | rfl <;> omega)
 obtain ⟨N, rfl⟩ := Int.eq_ofNat_of_zero_le (a := sm) (by omega)
 obtain ⟨Od, rfl⟩ := Int.eq_ofNat_of_zero_le (a := old) (by rcases hc with rfl | rfl <;> omega)
 obtain ⟨C, rfl⟩ := Int.eq_ofNat_of_zero_le (a := cp) (by rcases hc with rfl | rfl <;> omega)
 obtain ⟨sc, rfl⟩ := Int.eq_ofNat_of_zero_le hsc0
 rcases hc with rfl | rfl
 · obtain ⟨L, O, hcy, hy⟩ := zsh (S := 1) (T := T) (E := N) (F := N + 1) (sc := sc) (Od := Od) (C := C) hw hok (by omega) rfl (by omega) (by omega) rfl rfl rfl
   exact ⟨1, T, N, N + 1, Od, sc, C, L, O, rfl, rfl, rfl, rfl, hcy, hy, ⟨s0, s1, by omega, by omega, by omega, by omega, by omega, by omega⟩, by omega, by omega, by omega⟩
 · obtain ⟨L, O, hcy, hy⟩ := zsh (S := N + 1) (T := T) (E := 2 * N) (F := 1) (sc := sc) (Od := Od) (C := C) hw hok (by omega) rfl (by omega) (by omega) rfl rfl rfl
   exact ⟨N + 1, T, 2 * N, 1, Od, sc, C, L, O, rfl, rfl, rfl, rfl, hcy, hy, ⟨s0, s1, by omega, by omega, by omega, by omega, by omega, by omega⟩, by omega, by omega, by omega⟩
set_option maxHeartbeats 2000000 in
theorem zj9 (aw : Option Addr) (cw : Nat) (ws : List Int) (sm toh top : Int) (cyc : Bool) (sn old cp sr : Int) (ar : Option Addr) (cr : Nat) (rs : List (Int × Int))  (y : Nat -> Int) (Tr : Nat) (w : World) (hs : Sl w (.slice aw ws.length cw) ws) (hcw : ws.length <= cw) (hn : ws.length <= 1048576) (hw : zg ws) (hrt : SlF Tr w (.slice ar rs.length cr) rs.length (2 * rs.length) (fun i => .int .i64 (y i))) (hn2 : rs.length <= 1048576) (hok : ¬ zc9 ws sm toh top cyc sn old cp sr y rs.length) :
 Calls Tryz.prog 55 #[.agg #[.slice aw ws.length cw, .int .i64 sm, .int .i64 toh, .int .i64 top, .bool cyc, .int .i64 sn, .int .i64 old, .int .i64 cp, .int .i64 sr, .slice ar rs.length cr]] w fun e w' => ∃ vw vr, e = .returned (.tuple #[.agg #[vw, .int .i64 sm, .int .i64 toh, .int .i64 top, .bool cyc, .int .i64 sn, .int .i64 old, .int .i64 cp, .int .i64 sr, vr], .int .i64 0]) /\ zbi w.heap.size w'.heap.size w' vw vr ws.length rs.length (za ws) (y) /\ Below w.heap.size w w' := by
 have HS : Hid (Sl w (.slice aw ws.length cw) ws) := hs
 have HR : Hid (SlF w.heap.size w (.slice ar rs.length cr) rs.length (2 * rs.length) (fun i => .int .i64 (y i))) := hrt.here
 have HQ : Hid (¬ zc9 ws sm toh top cyc sn old cp sr y rs.length) := hok
 clear hs hrt hok
 go_enter Tryz.func55, Tryz.ntmps55
 go_wp2_with fail
 refine (zu5 _ _ _ _ _ _ _ _ _ _ _ _ _ _ y w.heap.size _ (HS.out.below (zo (Below.refl _ _))) hn (HR.out.below (zo (Below.refl _ _)) (Nat.le_refl _)) hn2).mono ?_
 rintro e w1 ⟨vw, vr, rfl, o1, b1⟩
 simp only [World.size_alloc] at o1
 obtain ⟨a1, c1, rfl⟩ := o1.sl.1.head
 obtain ⟨a2, c2, rfl⟩ := o1.sl.2.head
 have B1 := zo b1
 have l1 : w.heap.size + 1 < w1.heap.size := by have := b1.size; simp at this; omega
 have l0 : w.heap.size < w1.heap.size := by omega
 have k1 : ∀ i, w1.cell? ⟨w.heap.size, i, none⟩ = (#[.slice aw ws.length cw, .int .i64 sm, .int .i64 toh, .int .i64 top, .bool cyc, .int .i64 sn, .int .i64 old, .int .i64 cp, .int .i64 sr, .slice ar rs.length cr] : Array Value)[i]? := fun i => by rw [b1.cell (p := ⟨w.heap.size, i, none⟩) (by simp <;> omega)]; simp [go_sem]
 obtain ⟨_, hres⟩ := zdb (n := 10) b1 (by simp) rfl rfl
 have Z1 : w1.rowIs (w.heap.size + 1) 30 10 (fun i => (#[.slice none 0 0, .int .i64 0, .int .i64 0, .int .i64 0, .bool false, .int .i64 0, .int .i64 0, .int .i64 0, .int .i64 0, .slice none 0 0] : Array Value).getD i (.bool false)) := hres
 have HZ1 : Hid _ := Z1
 clear b1 hres Z1
 go_wp2_with fail
 refine (ze4 _ _ _ _ _ _ _ _ _ _ _ _ _ _ y w.heap.size _ (HS.out.below (zdj B1)) hcw hn hw (HR.out.below (zdj B1) (Nat.le_refl _)) hn2).mono ?_
 rintro e w2 ⟨q, rfl, hq, b2⟩
 obtain rfl : q = false := by
  cases q with
  | false => rfl
  | true => exact absurd (hq.1 rfl) HQ.out
 have b2f := zd b2
 have p2 := zq b2 (by simp)
 have z2 : w1.heap.size < w2.heap.size := zr b2
 have B2 := zc B1 b2f
 have k2 := ze k1 b2f (by omega)
 have o2 := o1.below b2f (by omega)
 have HZ2 : Hid (w2.rowIs (w.heap.size + 1) 30 10 (fun i => (#[.slice none 0 0, .int .i64 0, .int .i64 0, .int .i64 0, .bool false, .int .i64 0, .int .i64 0, .int .i64 0, .int .i64 0, .slice none 0 0] : Array Value).getD i (.bool false))) := World.rowIs.of_block HZ1.out (b2f.block _ (by omega))
 clear k1 b2 b2f o1 HZ1 hq B1
 obtain ⟨d0, d1, d2, d3, d4, d5, d6, d7, d8, d9⟩ := zef HZ2.out rfl rfl rfl rfl rfl rfl rfl rfl rfl rfl
 simp at d0 d1 d2 d3 d4 d5 d6 d7 d8 d9
 have ef := World.rowIs.frozen HZ2.out
 have HO : Hid (zbi (w.heap.size + 1 + 1) w1.heap.size w2 (.slice a1 ws.length c1) (.slice a2 rs.length c2) ws.length rs.length (za ws) y) := o2
 have HB : Hid (Below w.heap.size w w2) := B2
 clear o2 B2 HZ2
 go_wp2
 have q0 : (w2.cell? ⟨w.heap.size + 1, 0, none⟩).isSome = true := by rw [d0]; rfl
 have q1 : (w2.cell? ⟨w.heap.size + 1, 1, none⟩).isSome = true := by rw [d1]; rfl
 have q2 : (w2.cell? ⟨w.heap.size + 1, 2, none⟩).isSome = true := by rw [d2]; rfl
 have q3 : (w2.cell? ⟨w.heap.size + 1, 3, none⟩).isSome = true := by rw [d3]; rfl
 have q4 : (w2.cell? ⟨w.heap.size + 1, 4, none⟩).isSome = true := by rw [d4]; rfl
 have q5 : (w2.cell? ⟨w.heap.size + 1, 5, none⟩).isSome = true := by rw [d5]; rfl
 have q6 : (w2.cell? ⟨w.heap.size + 1, 6, none⟩).isSome = true := by rw [d6]; rfl
 have q7 : (w2.cell? ⟨w.heap.size + 1, 7, none⟩).isSome = true := by rw [d7]; rfl
 have q8 : (w2.cell? ⟨w.heap.size + 1, 8, none⟩).isSome = true := by rw [d8]; rfl
 have q9 : (w2.cell? ⟨w.heap.size + 1, 9, none⟩).isSome = true := by rw [d9]; rfl
 refine bodyPost_ret (v := .tuple #[.agg #[.slice a1 ws.length c1, .int .i64 sm, .int .i64 toh, .int .i64 top, .bool cyc, .int .i64 sn, .int .i64 old, .int .i64 cp, .int .i64 sr, .slice a2 rs.length c2], .int .i64 0]) (by simp [results, Tryz.results55, go_sem, q0, q1, q2, q3, q4, q5, q6, q7, q8, q9]) rfl ⟨_, _, rfl, ?_, ?_⟩
 · obtain ⟨u1, t1, u2, t2, h1, h2, h3, h4, h5, h6, h7⟩ := HO.out
   exact ⟨u1, t1, u2, t2, by omega, by simp; omega, by omega, by simp; omega, h5, zcu h6 (by omega), zcu h7 (by omega)⟩
 · exact zcr HB.out (by omega)
set_option maxHeartbeats 2000000 in
theorem zka (aw : Option Addr) (cw : Nat) (ws : List Int) (sm toh top : Int) (sn old cp sr : Int) (ar : Option Addr) (cr : Nat) (rs : List (Int × Int))  (y : Nat -> Int) (Tr : Nat) (w : World) (hs : Sl w (.slice aw ws.length cw) ws) (hcw : ws.length <= cw) (hn : ws.length <= 1048576) (hw : zg ws) (hrt : SlF Tr w (.slice ar rs.length cr) rs.length (2 * rs.length) (fun i => .int .i64 (y i))) (hn2 : rs.length <= 1048576) (hok : zc9 ws sm toh top false sn old cp sr y rs.length) :
 Calls Tryz.prog 55 #[.agg #[.slice aw ws.length cw, .int .i64 sm, .int .i64 toh, .int .i64 top, .bool false, .int .i64 sn, .int .i64 old, .int .i64 cp, .int .i64 sr, .slice ar rs.length cr]] w fun e w' => ∃ vw vr, e = .returned (.tuple #[.agg #[vw, .int .i64 sm, .int .i64 toh, .int .i64 top, .bool false, .int .i64 sn, .int .i64 old, .int .i64 cp, .int .i64 sr, vr], .int .i64 0]) /\ zbi w.heap.size w'.heap.size w' vw vr ws.length rs.length (za ws) (y) /\ Below w.heap.size w w' := by
 have HS : Hid (Sl w (.slice aw ws.length cw) ws) := hs
 have HR : Hid (SlF w.heap.size w (.slice ar rs.length cr) rs.length (2 * rs.length) (fun i => .int .i64 (y i))) := hrt.here
 have HQ : Hid (zc9 ws sm toh top false sn old cp sr y rs.length) := hok
 clear hs hrt hok
 go_enter Tryz.func55, Tryz.ntmps55
 go_wp2_with fail
 refine (zhc _ _ _ _ _ _ _ _ _ _ _ _ _ _ y w.heap.size _ (HS.out.below (zo (Below.refl _ _))) hn (HR.out.below (zo (Below.refl _ _)) (Nat.le_refl _)) hn2).mono ?_
 rintro e w1 ⟨vw, vr, rfl, ⟨a1, rfl⟩, o1, b1⟩
 simp only [World.size_alloc] at o1
 obtain ⟨a2, c2, rfl⟩ := o1.sl.2.head
 have B1 := zo b1
 have l1 : w.heap.size + 1 < w1.heap.size := by have := b1.size; simp at this; omega
 have l0 : w.heap.size < w1.heap.size := by omega
 have k1 : ∀ i, w1.cell? ⟨w.heap.size, i, none⟩ = (#[.slice aw ws.length cw, .int .i64 sm, .int .i64 toh, .int .i64 top, .bool false, .int .i64 sn, .int .i64 old, .int .i64 cp, .int .i64 sr, .slice ar rs.length cr] : Array Value)[i]? := fun i => by rw [b1.cell (p := ⟨w.heap.size, i, none⟩) (by simp <;> omega)]; simp [go_sem]
 obtain ⟨_, hres⟩ := zdb (n := 10) b1 (by simp) rfl rfl
 have Z1 : w1.rowIs (w.heap.size + 1) 30 10 (fun i => (#[.slice none 0 0, .int .i64 0, .int .i64 0, .int .i64 0, .bool false, .int .i64 0, .int .i64 0, .int .i64 0, .int .i64 0, .slice none 0 0] : Array Value).getD i (.bool false)) := hres
 have HZ1 : Hid _ := Z1
 clear b1 hres Z1
 go_wp2_with fail
 refine (ze4 _ _ _ _ _ _ _ _ _ _ _ _ _ _ y w.heap.size _ (HS.out.below (zdj B1)) hcw hn hw (HR.out.below (zdj B1) (Nat.le_refl _)) hn2).mono ?_
 rintro e w2 ⟨q, rfl, hq, b2⟩
 obtain rfl := hq.2 HQ.out
 have b2f := zd b2
 have p2 := zq b2 (by simp)
 have HP2 : Hid (w2.rowIs w1.heap.size 30 10 (fun i => (#[.slice a1 ws.length ws.length, .int .i64 sm, .int .i64 toh, .int .i64 top, .bool false, .int .i64 sn, .int .i64 old, .int .i64 cp, .int .i64 sr, .slice a2 rs.length c2] : Array Value).getD i (.bool false))) := zpr b2 (by simp) rfl
 have z2 : w1.heap.size < w2.heap.size := zr b2
 have B2 := zc B1 b2f
 have k2 := ze k1 b2f (by omega)
 have o2 := o1.below b2f (by omega)
 have HZ2 : Hid (w2.rowIs (w.heap.size + 1) 30 10 (fun i => (#[.slice none 0 0, .int .i64 0, .int .i64 0, .int .i64 0, .bool false, .int .i64 0, .int .i64 0, .int .i64 0, .int .i64 0, .slice none 0 0] : Array Value).getD i (.bool false))) := World.rowIs.of_block HZ1.out (b2f.block _ (by omega))
 clear k1 b2 b2f o1 HZ1 hq B1
 obtain ⟨s0, s1, hl, t0, t1, hrl, h1, h2, hold⟩ := zen HQ.out.1
 obtain ⟨bw, br, rfl, _, _, _, _, _, _, _⟩ := zfo rfl (by omega) o2
 go_wp2_with fail
 refine (zr4 w1.heap.size bw ws.length ws sm toh top sn old cp sr a2 c2 rs _ HP2.out).mono ?_
 rintro e w3 ⟨rfl, b3⟩
 have HZ3 : Hid (w3.rowIs (w.heap.size + 1) 30 10 (fun i => (#[.slice none 0 0, .int .i64 0, .int .i64 0, .int .i64 0, .bool false, .int .i64 0, .int .i64 0, .int .i64 0, .int .i64 0, .slice none 0 0] : Array Value).getD i (.bool false))) := HZ2.out.of_block (b3.block _ HZ2.out.lt)
 have p3 := ze p2 b3 (by omega)
 have o3 := o2.below b3 (by omega)
 have B3 := zc B2 b3
 have z3 : w1.heap.size < w3.heap.size := Nat.lt_of_lt_of_le z2 b3.size
 obtain ⟨d0, d1, d2, d3, d4, d5, d6, d7, d8, d9⟩ := zef HZ3.out rfl rfl rfl rfl rfl rfl rfl rfl rfl rfl
 simp at d0 d1 d2 d3 d4 d5 d6 d7 d8 d9
 have ef := World.rowIs.frozen HZ3.out
 have HO : Hid (zbi (w.heap.size + 1 + 1) w1.heap.size w3 (.slice (some ⟨bw, 0, none⟩) ws.length ws.length) (.slice a2 rs.length c2) ws.length rs.length (za ws) y) := o3
 have HB : Hid (Below w.heap.size w w3) := B3
 clear o2 o3 B2 B3 HZ2 HZ3 k2 p2 b3 HP2
 go_wp2
 have q0 : (w3.cell? ⟨w.heap.size + 1, 0, none⟩).isSome = true := by rw [d0]; rfl
 have q1 : (w3.cell? ⟨w.heap.size + 1, 1, none⟩).isSome = true := by rw [d1]; rfl
 have q2 : (w3.cell? ⟨w.heap.size + 1, 2, none⟩).isSome = true := by rw [d2]; rfl
 have q3 : (w3.cell? ⟨w.heap.size + 1, 3, none⟩).isSome = true := by rw [d3]; rfl
 have q4 : (w3.cell? ⟨w.heap.size + 1, 4, none⟩).isSome = true := by rw [d4]; rfl
 have q5 : (w3.cell? ⟨w.heap.size + 1, 5, none⟩).isSome = true := by rw [d5]; rfl
 have q6 : (w3.cell? ⟨w.heap.size + 1, 6, none⟩).isSome = true := by rw [d6]; rfl
 have q7 : (w3.cell? ⟨w.heap.size + 1, 7, none⟩).isSome = true := by rw [d7]; rfl
 have q8 : (w3.cell? ⟨w.heap.size + 1, 8, none⟩).isSome = true := by rw [d8]; rfl
 have q9 : (w3.cell? ⟨w.heap.size + 1, 9, none⟩).isSome = true := by rw [d9]; rfl
 refine bodyPost_ret (v := .tuple #[.agg #[.slice (some ⟨bw, 0, none⟩) ws.length ws.length, .int .i64 sm, .int .i64 toh, .int .i64 top, .bool false, .int .i64 sn, .int .i64 old, .int .i64 cp, .int .i64 sr, .slice a2 rs.length c2], .int .i64 0]) (by simp [results, Tryz.results55, go_sem, q0, q1, q2, q3, q4, q5, q6, q7, q8, q9]) rfl ⟨_, _, rfl, ?_, ?_⟩
 · obtain ⟨u1, t1, u2, t2, h1, h2, h3, h4, h5, h6, h7⟩ := HO.out
   exact ⟨u1, t1, u2, t2, by omega, by simp; omega, by omega, by simp; omega, h5, zcu h6 (by omega), zcu h7 (by omega)⟩
 · exact zcr HB.out (by omega)
set_option maxHeartbeats 2000000 in
theorem zkb (aw : Option Addr) (cw : Nat) (ws : List Int) (sm toh top : Int) (sn old cp sr : Int) (ar : Option Addr) (cr : Nat) (rs : List (Int × Int)) {S E F Od sc T C : Nat} {L O : List Nat} {R : Cp × Nat} (y : Nat -> Int) (Tr : Nat) (w : World) (hs : Sl w (.slice aw ws.length cw) ws) (hcw : ws.length <= cw) (hn : ws.length <= 1048576) (hw : zg ws) (hrt : SlF Tr w (.slice ar rs.length cr) rs.length (2 * rs.length) (fun i => .int .i64 (y i))) (hn2 : rs.length <= 1048576) (hok : zc9 ws sm toh top true sn old cp sr y rs.length) (hT : top = (T : Int)) (hsc : sn = (sc : Int)) (hcp : cp = (C : Int)) (hC : Cyc ⟨ws, T, C⟩ S E F Od sc 0 L O) (hH : zby sm toh S E F Od) (hCT : C <= T + 8000) (hE8 : E <= 8000) (g6 : 0 < ws.length) (hRR : R = zbk S E ⟨ws, T, C⟩ sc 0) :
 Calls Tryz.prog 55 #[.agg #[.slice aw ws.length cw, .int .i64 sm, .int .i64 toh, .int .i64 top, .bool true, .int .i64 sn, .int .i64 old, .int .i64 cp, .int .i64 sr, .slice ar rs.length cr]] w fun e w' => ∃ vw vr, e = .returned (.tuple #[.agg #[vw, .int .i64 sm, .int .i64 toh, .int .i64 (R.1.T : Int), .bool false, .int .i64 0, .int .i64 0, .int .i64 0, .int .i64 sr, vr], .int .i64 (R.2 : Int)]) /\ zbi w.heap.size w'.heap.size w' vw vr ws.length rs.length (za R.1.ws) y /\ Below w.heap.size w w' := by
 have HS : Hid (Sl w (.slice aw ws.length cw) ws) := hs
 have HR : Hid (SlF w.heap.size w (.slice ar rs.length cr) rs.length (2 * rs.length) (fun i => .int .i64 (y i))) := hrt.here
 have HQ : Hid (zc9 ws sm toh top true sn old cp sr y rs.length) := hok
 have HT : Hid (top = (T : Int) /\ sn = (sc : Int) /\ cp = (C : Int)) := ⟨hT, hsc, hcp⟩
 have HC : Hid (Cyc ⟨ws, T, C⟩ S E F Od sc 0 L O) := hC
 have HH : Hid (zby sm toh S E F Od) := hH
 have HRR : Hid (R = zbk S E ⟨ws, T, C⟩ sc 0) := hRR
 clear hs hrt hok hT hsc hcp hC hH hRR
 go_enter Tryz.func55, Tryz.ntmps55
 go_wp2_with fail
 refine (zhc _ _ _ _ _ _ _ _ _ _ _ _ _ _ y w.heap.size _ (HS.out.below (zo (Below.refl _ _))) hn (HR.out.below (zo (Below.refl _ _)) (Nat.le_refl _)) hn2).mono ?_
 rintro e w1 ⟨vw, vr, rfl, ⟨a1, rfl⟩, o1, b1⟩
 simp only [World.size_alloc] at o1
 obtain ⟨a2, c2, rfl⟩ := o1.sl.2.head
 have B1 := zo b1
 have l1 : w.heap.size + 1 < w1.heap.size := by have := b1.size; simp at this; omega
 have l0 : w.heap.size < w1.heap.size := by omega
 have k1 : ∀ i, w1.cell? ⟨w.heap.size, i, none⟩ = (#[.slice aw ws.length cw, .int .i64 sm, .int .i64 toh, .int .i64 top, .bool true, .int .i64 sn, .int .i64 old, .int .i64 cp, .int .i64 sr, .slice ar rs.length cr] : Array Value)[i]? := fun i => by rw [b1.cell (p := ⟨w.heap.size, i, none⟩) (by simp <;> omega)]; simp [go_sem]
 obtain ⟨_, hres⟩ := zdb (n := 10) b1 (by simp) rfl rfl
 have Z1 : w1.rowIs (w.heap.size + 1) 30 10 (fun i => (#[.slice none 0 0, .int .i64 0, .int .i64 0, .int .i64 0, .bool false, .int .i64 0, .int .i64 0, .int .i64 0, .int .i64 0, .slice none 0 0] : Array Value).getD i (.bool false)) := hres
 have HZ1 : Hid _ := Z1
 clear b1 hres Z1
 go_wp2_with fail
 refine (ze4 _ _ _ _ _ _ _ _ _ _ _ _ _ _ y w.heap.size _ (HS.out.below (zdj B1)) hcw hn hw (HR.out.below (zdj B1) (Nat.le_refl _)) hn2).mono ?_
 rintro e w2 ⟨q, rfl, hq, b2⟩
 obtain rfl := hq.2 HQ.out
 have b2f := zd b2
 have p2 := zq b2 (by simp)
 have HP2 : Hid (w2.rowIs w1.heap.size 30 10 (fun i => (#[.slice a1 ws.length ws.length, .int .i64 sm, .int .i64 toh, .int .i64 top, .bool true, .int .i64 sn, .int .i64 old, .int .i64 cp, .int .i64 sr, .slice a2 rs.length c2] : Array Value).getD i (.bool false))) := zpr b2 (by simp) rfl
 have z2 : w1.heap.size < w2.heap.size := zr b2
 have B2 := zc B1 b2f
 have k2 := ze k1 b2f (by omega)
 have o2 := o1.below b2f (by omega)
 have HZ2 : Hid (w2.rowIs (w.heap.size + 1) 30 10 (fun i => (#[.slice none 0 0, .int .i64 0, .int .i64 0, .int .i64 0, .bool false, .int .i64 0, .int .i64 0, .int .i64 0, .int .i64 0, .slice none 0 0] : Array Value).getD i (.bool false))) := World.rowIs.of_block HZ1.out (b2f.block _ (by omega))
 clear k1 b2 b2f o1 HZ1 hq B1
 obtain ⟨bw, br, rfl, hW, hR, hne, b1', b2', b3', b4'⟩ := zfo rfl g6 o2
 obtain ⟨_, hCR, hlen, _⟩ := HC.out.run E 0 (by omega)
 rw [<- HRR.out] at hlen
 have HLEN : Hid (R.1.ws.length = ws.length) := hlen
 clear o2 hCR hlen
 obtain ⟨hT, hsc, hcp⟩ := HT.out
 subst hT hsc hcp
 clear HT
 go_wp2_with fail
 refine (zpu w1.heap.size bw ws.length ws sm toh T sc old C sr a2 c2 rs _ HP2.out hW (by omega) (Nat.le_refl _) HC.out HH.out hCT hE8 HRR.out).mono ?_
 rintro e w3 ⟨rfl, hA3, hW3, hK3⟩
 have HW3 : Hid (RwW w3 bw R.1.ws) := hW3
 have HR3 : Hid (zkh w3 a2 br rs.length y) := by
  show zkh w3 a2 br rs.length y
  rcases hR with h | ⟨h, h'⟩
  · exact .inl h
  · by_cases hm : 0 < rs.length
    · exact .inr ⟨h, Rw.kp h' hK3 (by have := hne hm; simp; omega)⟩
    · exact .inl (by omega)
 have Z3 := HZ2.out.of_block (hK3.block _ HZ2.out.lt (by simp; omega))
 obtain ⟨d0, d1, d2, d3, d4, d5, d6, d7, d8, d9⟩ := zef Z3 rfl rfl rfl rfl rfl rfl rfl rfl rfl rfl
 simp at d0 d1 d2 d3 d4 d5 d6 d7 d8 d9
 have ef := World.rowIs.frozen Z3
 have z3 : w1.heap.size < w3.heap.size := Nat.lt_of_lt_of_le z2 hK3.size
 have HB3 : Hid (Below w.heap.size w w3) := B2.trans (hK3.below (fun x hx => by simp at hx; rcases hx with h | h <;> omega) (by omega))
 have KA3 := zl hA3 rfl
 clear hA3 hW3 hK3 hW hR Z3 HZ2 k2 p2 B2 HQ HS HR HP2 HC HH HRR
 go_wp2
 have q0 : (w3.cell? ⟨w.heap.size + 1, 0, none⟩).isSome = true := by rw [d0]; rfl
 have q1 : (w3.cell? ⟨w.heap.size + 1, 1, none⟩).isSome = true := by rw [d1]; rfl
 have q2 : (w3.cell? ⟨w.heap.size + 1, 2, none⟩).isSome = true := by rw [d2]; rfl
 have q3 : (w3.cell? ⟨w.heap.size + 1, 3, none⟩).isSome = true := by rw [d3]; rfl
 have q4 : (w3.cell? ⟨w.heap.size + 1, 4, none⟩).isSome = true := by rw [d4]; rfl
 have q5 : (w3.cell? ⟨w.heap.size + 1, 5, none⟩).isSome = true := by rw [d5]; rfl
 have q6 : (w3.cell? ⟨w.heap.size + 1, 6, none⟩).isSome = true := by rw [d6]; rfl
 have q7 : (w3.cell? ⟨w.heap.size + 1, 7, none⟩).isSome = true := by rw [d7]; rfl
 have q8 : (w3.cell? ⟨w.heap.size + 1, 8, none⟩).isSome = true := by rw [d8]; rfl
 have q9 : (w3.cell? ⟨w.heap.size + 1, 9, none⟩).isSome = true := by rw [d9]; rfl
 refine bodyPost_ret (v := .tuple #[.agg #[.slice (some ⟨bw, 0, none⟩) ws.length ws.length, .int .i64 sm, .int .i64 toh, .int .i64 (R.1.T : Int), .bool false, .int .i64 0, .int .i64 0, .int .i64 0, .int .i64 sr, .slice a2 rs.length c2], .int .i64 (R.2 : Int)]) (by simp [results, Tryz.results55, go_sem, q0, q1, q2, q3, q4, q5, q6, q7, q8, q9]) rfl ⟨.slice (some ⟨bw, 0, none⟩) ws.length ws.length, .slice a2 rs.length c2, rfl, ?_, ?_⟩
 · refine zn2 HLEN.out (Rw.of_block HW3.out (zc0 (by omega))) ?_ hne (by omega) (by simp; omega) (by omega) (by simp; omega)
   rcases HR3.out with h | ⟨h, h'⟩
   · exact .inl h
   · exact .inr ⟨h, Rw.of_block h' (zc0 (by omega))⟩
 · exact zcr HB3.out (by omega)
set_option maxHeartbeats 2000000 in
theorem zkc (aw : Option Addr) (cw : Nat) (ws : List Int) (sm toh top : Int) (cyc : Bool) (sn old cp sr : Int) (ar : Option Addr) (cr : Nat) (rs : List (Int × Int))  (y : Nat -> Int) (Tr : Nat) (w : World) (hs : Sl w (.slice aw ws.length cw) ws) (hn : ws.length <= 1048576) (hw : zg ws) (hrt : SlF Tr w (.slice ar rs.length cr) rs.length (2 * rs.length) (fun i => .int .i64 (y i))) (hn2 : rs.length <= 1048576) (hok : ¬ zc9 ws sm toh top cyc sn old cp sr y rs.length) :
 Calls Tryz.prog 54 #[.agg #[.slice aw ws.length cw, .int .i64 sm, .int .i64 toh, .int .i64 top, .bool cyc, .int .i64 sn, .int .i64 old, .int .i64 cp, .int .i64 sr, .slice ar rs.length cr]] w fun e w' => ∃ vw vr, e = .returned (.tuple #[.agg #[vw, .int .i64 sm, .int .i64 toh, .int .i64 top, .bool cyc, .int .i64 sn, .int .i64 old, .int .i64 cp, .int .i64 sr, vr], .int .i64 0]) /\ zbi w.heap.size w'.heap.size w' vw vr ws.length rs.length (za ws) y /\ Below w.heap.size w w' := by
 have HS : Hid (Sl w (.slice aw ws.length cw) ws) := hs
 have HR : Hid (SlF w.heap.size w (.slice ar rs.length cr) rs.length (2 * rs.length) (fun i => .int .i64 (y i))) := hrt.here
 have HQ : Hid (¬ zc9 ws sm toh top cyc sn old cp sr y rs.length) := hok
 clear hs hrt hok
 go_enter Tryz.func54, Tryz.ntmps54
 go_wp2_with fail
 refine (ze3 _ _ _ _ _ _ _ _ _ _ _ _ _ _ y w.heap.size _ (HS.out.below (zo (Below.refl _ _))) hn hw (HR.out.below (zo (Below.refl _ _)) (Nat.le_refl _)) hn2).mono ?_
 rintro e w1 ⟨q, rfl, hq, b1⟩
 obtain rfl : q = false := by
  cases q with
  | false => rfl
  | true => exact absurd (hq.1 rfl) HQ.out
 have B1 := zo b1
 have l1 : w.heap.size + 1 < w1.heap.size := by have := b1.size; simp at this; omega
 obtain ⟨RA, hres⟩ := zdb (n := 10) b1 (by simp) rfl rfl
 have k1 := zl RA rfl
 have Z1 : w1.rowIs (w.heap.size + 1) 30 10 (fun i => (#[.slice none 0 0, .int .i64 0, .int .i64 0, .int .i64 0, .bool false, .int .i64 0, .int .i64 0, .int .i64 0, .int .i64 0, .slice none 0 0] : Array Value).getD i (.bool false)) := hres
 clear b1 hres hq RA
 go_wp2_with fail
 refine (zh2 _ _ _ _ _ _ _ _ _ _ _ _ _ _ y w.heap.size _ (HS.out.below B1) hn (HR.out.below B1 (Nat.le_refl _)) hn2).mono ?_
 rintro e w2 ⟨vw, vr, rfl, o2, b2⟩
 obtain ⟨a1, c1, rfl⟩ := o2.sl.1.head
 obtain ⟨a2, c2, rfl⟩ := o2.sl.2.head
 have Z2 := Z1.of_block (b2.block _ Z1.lt)
 have HZ2 : Hid (w2.rowIs (w.heap.size + 1) 30 10 (fun i => (#[.slice none 0 0, .int .i64 0, .int .i64 0, .int .i64 0, .bool false, .int .i64 0, .int .i64 0, .int .i64 0, .int .i64 0, .slice none 0 0] : Array Value).getD i (.bool false))) := Z2
 have B2 := zc B1 b2
 have z2 : w1.heap.size <= w2.heap.size := b2.size
 clear b2 Z1 Z2 k1
 obtain ⟨d0, d1, d2, d3, d4, d5, d6, d7, d8, d9⟩ := zef HZ2.out rfl rfl rfl rfl rfl rfl rfl rfl rfl rfl
 simp at d0 d1 d2 d3 d4 d5 d6 d7 d8 d9
 have ef := World.rowIs.frozen HZ2.out
 have HO : Hid (zbi w1.heap.size w2.heap.size w2 (.slice a1 ws.length c1) (.slice a2 rs.length c2) ws.length rs.length (za ws) y) := o2
 have HB : Hid (Below w.heap.size w w2) := B2
 clear o2 B2 HZ2
 go_wp2
 have q0 : (w2.cell? ⟨w.heap.size + 1, 0, none⟩).isSome = true := by rw [d0]; rfl
 have q1 : (w2.cell? ⟨w.heap.size + 1, 1, none⟩).isSome = true := by rw [d1]; rfl
 have q2 : (w2.cell? ⟨w.heap.size + 1, 2, none⟩).isSome = true := by rw [d2]; rfl
 have q3 : (w2.cell? ⟨w.heap.size + 1, 3, none⟩).isSome = true := by rw [d3]; rfl
 have q4 : (w2.cell? ⟨w.heap.size + 1, 4, none⟩).isSome = true := by rw [d4]; rfl
 have q5 : (w2.cell? ⟨w.heap.size + 1, 5, none⟩).isSome = true := by rw [d5]; rfl
 have q6 : (w2.cell? ⟨w.heap.size + 1, 6, none⟩).isSome = true := by rw [d6]; rfl
 have q7 : (w2.cell? ⟨w.heap.size + 1, 7, none⟩).isSome = true := by rw [d7]; rfl
 have q8 : (w2.cell? ⟨w.heap.size + 1, 8, none⟩).isSome = true := by rw [d8]; rfl
 have q9 : (w2.cell? ⟨w.heap.size + 1, 9, none⟩).isSome = true := by rw [d9]; rfl
 refine bodyPost_ret (v := .tuple #[.agg #[.slice a1 ws.length c1, .int .i64 sm, .int .i64 toh, .int .i64 top, .bool cyc, .int .i64 sn, .int .i64 old, .int .i64 cp, .int .i64 sr, .slice a2 rs.length c2], .int .i64 0]) (by simp [results, Tryz.results54, go_sem, q0, q1, q2, q3, q4, q5, q6, q7, q8, q9]) rfl ⟨_, _, rfl, ?_, ?_⟩
 · obtain ⟨u1, t1, u2, t2, h1, h2, h3, h4, h5, h6, h7⟩ := HO.out
   exact ⟨u1, t1, u2, t2, by omega, by simp; omega, by omega, by simp; omega, h5, zcu h6 (by omega), zcu h7 (by omega)⟩
 · exact zcr HB.out (by omega)
set_option maxHeartbeats 2000000 in
theorem zkd (aw : Option Addr) (cw : Nat) (ws : List Int) (sm toh top : Int) (sn old cp sr : Int) (ar : Option Addr) (cr : Nat) (rs : List (Int × Int))  (y : Nat -> Int) (Tr : Nat) (w : World) (hs : Sl w (.slice aw ws.length cw) ws) (hn : ws.length <= 1048576) (hw : zg ws) (hrt : SlF Tr w (.slice ar rs.length cr) rs.length (2 * rs.length) (fun i => .int .i64 (y i))) (hn2 : rs.length <= 1048576) (hok : zc9 ws sm toh top false sn old cp sr y rs.length) :
 Calls Tryz.prog 54 #[.agg #[.slice aw ws.length cw, .int .i64 sm, .int .i64 toh, .int .i64 top, .bool false, .int .i64 sn, .int .i64 old, .int .i64 cp, .int .i64 sr, .slice ar rs.length cr]] w fun e w' => ∃ vw vr, e = .returned (.tuple #[.agg #[vw, .int .i64 sm, .int .i64 toh, .int .i64 top, .bool false, .int .i64 sn, .int .i64 old, .int .i64 cp, .int .i64 sr, vr], .int .i64 0]) /\ zbi w.heap.size w'.heap.size w' vw vr ws.length rs.length (za ws) y /\ Below w.heap.size w w' := by
 have HS : Hid (Sl w (.slice aw ws.length cw) ws) := hs
 have HR : Hid (SlF w.heap.size w (.slice ar rs.length cr) rs.length (2 * rs.length) (fun i => .int .i64 (y i))) := hrt.here
 have HQ : Hid (zc9 ws sm toh top false sn old cp sr y rs.length) := hok
 clear hs hrt hok
 go_enter Tryz.func54, Tryz.ntmps54
 go_wp2_with fail
 refine (ze3 _ _ _ _ _ _ _ _ _ _ _ _ _ _ y w.heap.size _ (HS.out.below (zo (Below.refl _ _))) hn hw (HR.out.below (zo (Below.refl _ _)) (Nat.le_refl _)) hn2).mono ?_
 rintro e w1 ⟨q, rfl, hq, b1⟩
 obtain rfl := hq.2 HQ.out
 have B1 := zo b1
 have l1 : w.heap.size + 1 < w1.heap.size := by have := b1.size; simp at this; omega
 obtain ⟨RA, hres⟩ := zdb (n := 10) b1 (by simp) rfl rfl
 have k1 := zl RA rfl
 have Z1 : w1.rowIs (w.heap.size + 1) 30 10 (fun i => (#[.slice none 0 0, .int .i64 0, .int .i64 0, .int .i64 0, .bool false, .int .i64 0, .int .i64 0, .int .i64 0, .int .i64 0, .slice none 0 0] : Array Value).getD i (.bool false)) := hres
 clear b1 hres hq RA
 go_wp2_with fail
 refine (zh2 _ _ _ _ _ _ _ _ _ _ _ _ _ _ y w.heap.size _ (HS.out.below B1) hn (HR.out.below B1 (Nat.le_refl _)) hn2).mono ?_
 rintro e w2 ⟨vw, vr, rfl, o2, b2⟩
 obtain ⟨a1, c1, rfl⟩ := o2.sl.1.head
 obtain ⟨a2, c2, rfl⟩ := o2.sl.2.head
 have Z2 := Z1.of_block (b2.block _ Z1.lt)
 have HZ2 : Hid (w2.rowIs (w.heap.size + 1) 30 10 (fun i => (#[.slice none 0 0, .int .i64 0, .int .i64 0, .int .i64 0, .bool false, .int .i64 0, .int .i64 0, .int .i64 0, .int .i64 0, .slice none 0 0] : Array Value).getD i (.bool false))) := Z2
 have B2 := zc B1 b2
 have z2 : w1.heap.size <= w2.heap.size := b2.size
 clear b2 Z1 Z2 k1
 obtain ⟨s0, s1, hl, t0, t1, hrl, h1, h2, hold⟩ := zen HQ.out.1
 obtain ⟨bw, br, rfl, _, _, _, _, _, _, _⟩ := zfo rfl (by omega) o2
 go_wp2_with fail
 refine (zn3 bw c1 ws sm toh top sn old cp sr a2 c2 rs _).mono ?_
 rintro e w3 ⟨rfl, b3⟩
 have HZ3 : Hid (w3.rowIs (w.heap.size + 1) 30 10 (fun i => (#[.slice none 0 0, .int .i64 0, .int .i64 0, .int .i64 0, .bool false, .int .i64 0, .int .i64 0, .int .i64 0, .int .i64 0, .slice none 0 0] : Array Value).getD i (.bool false))) := HZ2.out.of_block (b3.block _ HZ2.out.lt)
 have z3 : w2.heap.size <= w3.heap.size := b3.size
 obtain ⟨d0, d1, d2, d3, d4, d5, d6, d7, d8, d9⟩ := zef HZ3.out rfl rfl rfl rfl rfl rfl rfl rfl rfl rfl
 simp at d0 d1 d2 d3 d4 d5 d6 d7 d8 d9
 have ef := World.rowIs.frozen HZ3.out
 have HO : Hid (zbi w1.heap.size w2.heap.size w3 (.slice (some ⟨bw, 0, none⟩) ws.length c1) (.slice a2 rs.length c2) ws.length rs.length (za ws) y) := o2.below b3 (by omega)
 have HB : Hid (Below w.heap.size w w3) := zc B2 b3
 clear o2 B2 b3 HZ2 HZ3
 go_wp2
 have q0 : (w3.cell? ⟨w.heap.size + 1, 0, none⟩).isSome = true := by rw [d0]; rfl
 have q1 : (w3.cell? ⟨w.heap.size + 1, 1, none⟩).isSome = true := by rw [d1]; rfl
 have q2 : (w3.cell? ⟨w.heap.size + 1, 2, none⟩).isSome = true := by rw [d2]; rfl
 have q3 : (w3.cell? ⟨w.heap.size + 1, 3, none⟩).isSome = true := by rw [d3]; rfl
 have q4 : (w3.cell? ⟨w.heap.size + 1, 4, none⟩).isSome = true := by rw [d4]; rfl
 have q5 : (w3.cell? ⟨w.heap.size + 1, 5, none⟩).isSome = true := by rw [d5]; rfl
 have q6 : (w3.cell? ⟨w.heap.size + 1, 6, none⟩).isSome = true := by rw [d6]; rfl
 have q7 : (w3.cell? ⟨w.heap.size + 1, 7, none⟩).isSome = true := by rw [d7]; rfl
 have q8 : (w3.cell? ⟨w.heap.size + 1, 8, none⟩).isSome = true := by rw [d8]; rfl
 have q9 : (w3.cell? ⟨w.heap.size + 1, 9, none⟩).isSome = true := by rw [d9]; rfl
 refine bodyPost_ret (v := .tuple #[.agg #[.slice (some ⟨bw, 0, none⟩) ws.length c1, .int .i64 sm, .int .i64 toh, .int .i64 top, .bool false, .int .i64 sn, .int .i64 old, .int .i64 cp, .int .i64 sr, .slice a2 rs.length c2], .int .i64 0]) (by simp [results, Tryz.results54, go_sem, q0, q1, q2, q3, q4, q5, q6, q7, q8, q9]) rfl ⟨_, _, rfl, ?_, ?_⟩
 · obtain ⟨u1, t1, u2, t2, h1, h2, h3, h4, h5, h6, h7⟩ := HO.out
   exact ⟨u1, t1, u2, t2, by omega, by simp; omega, by omega, by simp; omega, h5, zcu h6 (by omega), zcu h7 (by omega)⟩
 · exact zcr HB.out (by omega)
set_option maxHeartbeats 2000000 in
theorem zke (aw : Option Addr) (cw : Nat) (ws : List Int) (sm toh top : Int) (sn old cp sr : Int) (ar : Option Addr) (cr : Nat) (rs : List (Int × Int)) {S E F Od sc T C : Nat} {L O : List Nat} {R : Cp × Nat} (y : Nat -> Int) (Tr : Nat) (w : World) (hs : Sl w (.slice aw ws.length cw) ws) (hn : ws.length <= 1048576) (hw : zg ws) (hrt : SlF Tr w (.slice ar rs.length cr) rs.length (2 * rs.length) (fun i => .int .i64 (y i))) (hn2 : rs.length <= 1048576) (hok : zc9 ws sm toh top true sn old cp sr y rs.length) (hT : top = (T : Int)) (hsc : sn = (sc : Int)) (hcp : cp = (C : Int)) (hC : Cyc ⟨ws, T, C⟩ S E F Od sc 0 L O) (hH : zby sm toh S E F Od) (hCT : C <= T + 8000) (hE8 : E <= 8000) (g6 : 0 < ws.length) (hRR : R = zbk S E ⟨ws, T, C⟩ sc 0) :
 Calls Tryz.prog 54 #[.agg #[.slice aw ws.length cw, .int .i64 sm, .int .i64 toh, .int .i64 top, .bool true, .int .i64 sn, .int .i64 old, .int .i64 cp, .int .i64 sr, .slice ar rs.length cr]] w fun e w' => ∃ vw vr, e = .returned (.tuple #[.agg #[vw, .int .i64 sm, .int .i64 toh, .int .i64 (R.1.T : Int), .bool false, .int .i64 0, .int .i64 0, .int .i64 0, .int .i64 sr, vr], .int .i64 (R.2 : Int)]) /\ zbi w.heap.size w'.heap.size w' vw vr ws.length rs.length (za R.1.ws) y /\ Below w.heap.size w w' := by
 have HS : Hid (Sl w (.slice aw ws.length cw) ws) := hs
 have HR : Hid (SlF w.heap.size w (.slice ar rs.length cr) rs.length (2 * rs.length) (fun i => .int .i64 (y i))) := hrt.here
 have HQ : Hid (zc9 ws sm toh top true sn old cp sr y rs.length) := hok
 have HT : Hid (top = (T : Int) /\ sn = (sc : Int) /\ cp = (C : Int)) := ⟨hT, hsc, hcp⟩
 have HC : Hid (Cyc ⟨ws, T, C⟩ S E F Od sc 0 L O) := hC
 have HH : Hid (zby sm toh S E F Od) := hH
 have HRR : Hid (R = zbk S E ⟨ws, T, C⟩ sc 0) := hRR
 clear hT hsc hcp hC hH hRR
 clear hs hrt hok
 go_enter Tryz.func54, Tryz.ntmps54
 go_wp2_with fail
 refine (ze3 _ _ _ _ _ _ _ _ _ _ _ _ _ _ y w.heap.size _ (HS.out.below (zo (Below.refl _ _))) hn hw (HR.out.below (zo (Below.refl _ _)) (Nat.le_refl _)) hn2).mono ?_
 rintro e w1 ⟨q, rfl, hq, b1⟩
 obtain rfl := hq.2 HQ.out
 have B1 := zo b1
 have l1 : w.heap.size + 1 < w1.heap.size := by have := b1.size; simp at this; omega
 obtain ⟨RA, hres⟩ := zdb (n := 10) b1 (by simp) rfl rfl
 have k1 := zl RA rfl
 have Z1 : w1.rowIs (w.heap.size + 1) 30 10 (fun i => (#[.slice none 0 0, .int .i64 0, .int .i64 0, .int .i64 0, .bool false, .int .i64 0, .int .i64 0, .int .i64 0, .int .i64 0, .slice none 0 0] : Array Value).getD i (.bool false)) := hres
 clear b1 hres hq RA
 go_wp2_with fail
 refine (zh2 _ _ _ _ _ _ _ _ _ _ _ _ _ _ y w.heap.size _ (HS.out.below B1) hn (HR.out.below B1 (Nat.le_refl _)) hn2).mono ?_
 rintro e w2 ⟨vw, vr, rfl, o2, b2⟩
 obtain ⟨a1, c1, rfl⟩ := o2.sl.1.head
 obtain ⟨a2, c2, rfl⟩ := o2.sl.2.head
 have Z2 := Z1.of_block (b2.block _ Z1.lt)
 have HZ2 : Hid (w2.rowIs (w.heap.size + 1) 30 10 (fun i => (#[.slice none 0 0, .int .i64 0, .int .i64 0, .int .i64 0, .bool false, .int .i64 0, .int .i64 0, .int .i64 0, .int .i64 0, .slice none 0 0] : Array Value).getD i (.bool false))) := Z2
 have B2 := zc B1 b2
 have z2 : w1.heap.size <= w2.heap.size := b2.size
 clear b2 Z1 Z2 k1
 obtain ⟨bw, br, rfl, hW, hR, hne, b1', b2', b3', b4'⟩ := zfo rfl g6 o2
 obtain ⟨_, hCR, hlen, _⟩ := HC.out.run E 0 (by omega)
 rw [<- HRR.out] at hlen
 have HLEN : Hid (R.1.ws.length = ws.length) := hlen
 clear o2 hCR hlen
 obtain ⟨hT, hsc, hcp⟩ := HT.out
 subst hT hsc hcp
 clear HT
 go_wp2_with fail
 refine (zlz bw c1 ws sm toh 0 0 old 0 sr a2 c2 rs _ hW HC.out HH.out hCT hE8 HRR.out).mono ?_
 rintro e w3 ⟨rfl, hW3, hK3⟩
 have HW3 : Hid (RwW w3 bw R.1.ws) := hW3
 have HR3 : Hid (zkh w3 a2 br rs.length y) := by
  show zkh w3 a2 br rs.length y
  rcases hR with h | ⟨h, h'⟩
  · exact .inl h
  · by_cases hm : 0 < rs.length
    · exact .inr ⟨h, Rw.kp h' hK3 (by have := hne hm; simp; omega)⟩
    · exact .inl (by omega)
 have HZ3 : Hid (w3.rowIs (w.heap.size + 1) 30 10 (fun i => (#[.slice none 0 0, .int .i64 0, .int .i64 0, .int .i64 0, .bool false, .int .i64 0, .int .i64 0, .int .i64 0, .int .i64 0, .slice none 0 0] : Array Value).getD i (.bool false))) := HZ2.out.of_block (hK3.block _ HZ2.out.lt (by simp; omega))
 have z3 : w2.heap.size <= w3.heap.size := hK3.size
 have HB3 : Hid (Below w.heap.size w w3) := B2.trans (hK3.below (fun x hx => by simp at hx; omega) (by omega))
 obtain ⟨d0, d1, d2, d3, d4, d5, d6, d7, d8, d9⟩ := zef HZ3.out rfl rfl rfl rfl rfl rfl rfl rfl rfl rfl
 simp at d0 d1 d2 d3 d4 d5 d6 d7 d8 d9
 have ef := World.rowIs.frozen HZ3.out
 clear hW3 hK3 hW hR HZ2 HZ3 B2 HQ HS HR HC HH HRR
 go_wp2
 have q0 : (w3.cell? ⟨w.heap.size + 1, 0, none⟩).isSome = true := by rw [d0]; rfl
 have q1 : (w3.cell? ⟨w.heap.size + 1, 1, none⟩).isSome = true := by rw [d1]; rfl
 have q2 : (w3.cell? ⟨w.heap.size + 1, 2, none⟩).isSome = true := by rw [d2]; rfl
 have q3 : (w3.cell? ⟨w.heap.size + 1, 3, none⟩).isSome = true := by rw [d3]; rfl
 have q4 : (w3.cell? ⟨w.heap.size + 1, 4, none⟩).isSome = true := by rw [d4]; rfl
 have q5 : (w3.cell? ⟨w.heap.size + 1, 5, none⟩).isSome = true := by rw [d5]; rfl
 have q6 : (w3.cell? ⟨w.heap.size + 1, 6, none⟩).isSome = true := by rw [d6]; rfl
 have q7 : (w3.cell? ⟨w.heap.size + 1, 7, none⟩).isSome = true := by rw [d7]; rfl
 have q8 : (w3.cell? ⟨w.heap.size + 1, 8, none⟩).isSome = true := by rw [d8]; rfl
 have q9 : (w3.cell? ⟨w.heap.size + 1, 9, none⟩).isSome = true := by rw [d9]; rfl
 refine bodyPost_ret (v := .tuple #[.agg #[.slice (some ⟨bw, 0, none⟩) ws.length c1, .int .i64 sm, .int .i64 toh, .int .i64 (R.1.T : Int), .bool false, .int .i64 0, .int .i64 0, .int .i64 0, .int .i64 sr, .slice a2 rs.length c2], .int .i64 (R.2 : Int)]) (by simp [results, Tryz.results54, go_sem, q0, q1, q2, q3, q4, q5, q6, q7, q8, q9]) rfl ⟨.slice (some ⟨bw, 0, none⟩) ws.length c1, .slice a2 rs.length c2, rfl, ?_, ?_⟩
 · refine zn2 HLEN.out (Rw.of_block HW3.out (zc0 (by omega))) ?_ hne (by omega) (by simp; omega) (by omega) (by simp; omega)
   rcases HR3.out with h | ⟨h, h'⟩
   · exact .inl h
   · exact .inr ⟨h, Rw.of_block h' (zc0 (by omega))⟩
 · exact zcr HB3.out (by omega)
set_option maxHeartbeats 4000000 in
theorem zem (aw : Option Addr) (cw : Nat) (ws : List Int) (sm toh top : Int) (cyc : Bool) (sn old cp sr : Int) (ar : Option Addr) (cr : Nat) (rs : List (Int × Int))  (y : Nat -> Int) (Tr : Nat) (w : World) (semj tohj topj : Int) (cycj : Bool) (scanj oldj copiedj serialj : Int) (n m : Nat) (z yj : Nat -> Int) (q : Int) (hnn : ws.length <= 1048576 -> rs.length <= 1048576 -> n <= 1048576) (hmm : ws.length <= 1048576 -> rs.length <= 1048576 -> m <= 1048576) (hs : Sl w (.slice aw ws.length cw) ws) (hrt : SlF Tr w (.slice ar rs.length cr) rs.length (2 * rs.length) (fun i => .int .i64 (y i))) (hl1 : ws.length <= 9223372036854775807) (hl2 : rs.length <= 9223372036854775807)
 (hspec : ws.length <= 1048576 -> rs.length <= 1048576 -> ∀ (aw : Option Addr) (cw : Nat) (ar : Option Addr) (cr : Nat) (W : World) (T : Nat), Sl W (.slice aw ws.length cw) ws -> SlF T W (.slice ar rs.length cr) rs.length (2 * rs.length) (fun i => .int .i64 (y i)) -> Calls Tryz.prog 54 #[.agg #[.slice aw ws.length cw, .int .i64 sm, .int .i64 toh, .int .i64 top, .bool cyc, .int .i64 sn, .int .i64 old, .int .i64 cp, .int .i64 sr, .slice ar rs.length cr]] W fun e w' => ∃ vw vr, e = .returned (.tuple #[.agg #[vw, .int .i64 semj, .int .i64 tohj, .int .i64 topj, .bool cycj, .int .i64 scanj, .int .i64 oldj, .int .i64 copiedj, .int .i64 serialj, vr], .int .i64 q]) /\ zbi W.heap.size w'.heap.size w' vw vr n m z yj /\ Below W.heap.size W w')
 (himpl : ws.length <= 1048576 -> rs.length <= 1048576 -> ∀ (aw : Option Addr) (cw : Nat) (ar : Option Addr) (cr : Nat) (W : World) (T : Nat), Sl W (.slice aw ws.length cw) ws -> ws.length <= cw -> SlF T W (.slice ar rs.length cr) rs.length (2 * rs.length) (fun i => .int .i64 (y i)) -> Calls Tryz.prog 55 #[.agg #[.slice aw ws.length cw, .int .i64 sm, .int .i64 toh, .int .i64 top, .bool cyc, .int .i64 sn, .int .i64 old, .int .i64 cp, .int .i64 sr, .slice ar rs.length cr]] W fun e w' => ∃ vw vr, e = .returned (.tuple #[.agg #[vw, .int .i64 semj, .int .i64 tohj, .int .i64 topj, .bool cycj, .int .i64 scanj, .int .i64 oldj, .int .i64 copiedj, .int .i64 serialj, vr], .int .i64 q]) /\ zbi W.heap.size w'.heap.size w' vw vr n m z yj /\ Below W.heap.size W w') :
 Calls Tryz.prog 15 #[.agg #[.slice aw ws.length cw, .int .i64 sm, .int .i64 toh, .int .i64 top, .bool cyc, .int .i64 sn, .int .i64 old, .int .i64 cp, .int .i64 sr, .slice ar rs.length cr]] w fun e w' => e = .returned (.bool true) /\ Below w.heap.size w w' := by
 by_cases h : (ws.length : Int) + rs.length <= 1048576
 · have hn : ws.length <= 1048576 := by omega
   have hn2 : rs.length <= 1048576 := by omega
   have h0 : ¬ (1048576 - (ws.length : Int) - rs.length) < 0 := by omega
   have hnn := hnn hn hn2
   have hmm := hmm hn hn2
   have k0 : ¬ (1 + (n : Int) + 2 * m) < 0 := by omega
   have k0' : ¬ (1 + (ws.length : Int) + 2 * rs.length) < 0 := by omega
   have HSZ : ∀ W, _ := fun W => zil aw ws.length cw sm toh top cyc sn old cp sr ar rs.length cr W hl1 hl2
   rw [if_pos h] at HSZ
   have HTA : Hid (∀ W, Below w.heap.size w W -> _) := fun W (hW : Below w.heap.size w W) => zo5 aw cw ws sm toh top cyc sn old cp sr ar cr rs y w.heap.size W (hs.below hW) hn (hrt.here.below hW (Nat.le_refl _)) hn2
   have HSP : Hid _ := hspec hn hn2
   have HIM : Hid _ := himpl hn hn2
   clear hs hrt h hl1 hl2 hspec himpl
   go_enter Tryz.func15, Tryz.ntmps15
   go_wp2_with fail
   refine (HSZ _).mono ?_
   rintro e w1 ⟨rfl, b1⟩
   have B1 := zd b1
   have k1 := zq b1 (by simp)
   have z1 := zr b1
   clear b1
   go_wp2_with fail
   refine (HTA.out _ B1).mono ?_
   rintro e w2 ⟨x1, x2, rfl, o2, b2⟩
   have B2 := zc B1 b2
   have k2 := ze k1 b2 z1
   have z2 := Nat.lt_of_lt_of_le z1 b2.size
   obtain ⟨s2, r2⟩ := zja o2
   clear b2 k1 o2
   go_wp2_with fail
   refine (HSP.out (some ⟨x1, 0, none⟩) ws.length (some ⟨x2, 0, none⟩) rs.length _ _ s2 r2).mono ?_
   rintro e w3 ⟨vw, vr, rfl, o3, b3⟩
   obtain ⟨a1, c1, rfl⟩ := o3.sl.1.head
   obtain ⟨a2, c2, rfl⟩ := o3.sl.2.head
   have B3 := zc B2 b3
   have k3 := ze k2 b3 z2
   have z3 := Nat.lt_of_lt_of_le z2 b3.size
   clear b3 k2 s2 r2
   have B3' := zdj (o := .cells #[.slice a1 n c1, .int .i64 semj, .int .i64 tohj, .int .i64 topj, .bool cycj, .int .i64 scanj, .int .i64 oldj, .int .i64 copiedj, .int .i64 serialj, .slice a2 m c2] 30) B3
   go_wp2_with fail
   refine (HTA.out _ B3').mono ?_
   rintro e w4 ⟨x3, x4, rfl, o4, b4⟩
   simp only [World.size_alloc] at o4
   have B4 := zc B3' b4
   have k4 := ze (ze k3 ((Below.refl w3.heap.size w3).alloc (Nat.le_refl _) _) z3) b4 (by simp; omega)
   have q4 := zq b4 (by simp)
   have z4 : w3.heap.size < w4.heap.size := zr b4
   have S4 := o3.sl.1.below (zd b4) (Nat.le_refl _)
   have R4 := o3.sl.2.below (zd b4) (Nat.le_refl _)
   clear k3 b4 o3 B3'
   have A4 : Below w4.heap.size w4 (w4.alloc (.cells #[.slice (some ⟨x3, 0, none⟩) ws.length ws.length, .int .i64 sm, .int .i64 toh, .int .i64 top, .bool cyc, .int .i64 sn, .int .i64 old, .int .i64 cp, .int .i64 sr, .slice (some ⟨x4, 0, none⟩) rs.length rs.length] 30)) := (Below.refl _ _).alloc (Nat.le_refl _) _
   obtain ⟨s4, r4⟩ := zja (o4.below A4 (Nat.le_refl _))
   go_wp2_with fail
   refine (HIM.out (some ⟨x3, 0, none⟩) ws.length (some ⟨x4, 0, none⟩) rs.length _ _ s4 (Nat.le_refl _) r4).mono ?_
   rintro e w5 ⟨vw, vr, rfl, o5, b5⟩
   obtain ⟨a3, c3, rfl⟩ := o5.sl.1.head
   obtain ⟨a4, c4, rfl⟩ := o5.sl.2.head
   have b5f := zd b5
   have B5 := zc (zdj B4) b5
   have k5 := ze k4 b5f (by omega)
   have q5 := ze q4 b5f z4
   have p5 := zq b5 (by simp)
   have z5 : w4.heap.size < w5.heap.size := zr b5
   have z35 : w3.heap.size < w5.heap.size := by omega
   have o4' := o4.below b5f (Nat.le_refl _)
   have S5 := S4.below b5f (by omega)
   have R5 := R4.below b5f (by omega)
   clear k4 q4 b5 b5f o4 S4 R4 A4 s4 r4
   have A5 : Below w5.heap.size w5 (w5.alloc (.cells #[.slice a3 n c3, .int .i64 semj, .int .i64 tohj, .int .i64 topj, .bool cycj, .int .i64 scanj, .int .i64 oldj, .int .i64 copiedj, .int .i64 serialj, .slice a4 m c4] 30)) := (Below.refl _ _).alloc (Nat.le_refl _) _
   simp only [World.size_alloc] at o5
   go_wp2_with fail
   refine (zet _ _ _ _ _ _ _ _ n m z yj _ _ _ _ _ _ _ _ _ (o5.sl.1.below A5 (Nat.le_refl _)) (S5.below A5 (by omega)) hnn (o5.sl.2.below A5 (Nat.le_refl _)) (R5.below A5 (by omega)) hmm).mono ?_
   rintro e w6 ⟨rfl, b6⟩
   have b6f := zd b6
   have B6 := zc B5 b6f
   have k6 := ze k5 b6f (by omega)
   have q6 := ze q5 b6f (by omega)
   have p6 := ze p5 b6f (by omega)
   have g6 := zq b6 (by simp)
   have z6 : w5.heap.size < w6.heap.size := zr b6
   have o6 := o5.below b6f (Nat.le_refl _)
   have ox := o4'.below b6f (by omega)
   have S6 := S5.below b6f (by omega)
   have R6 := R5.below b6f (by omega)
   clear k5 q5 p5 b6 b6f o5 o4' S5 R5 A5
   go_wp2_with fail
   have KP : ∀ V, Below w6.heap.size w6 V -> (Below w6.heap.size w6 V /\ (∀ i, V.cell? ⟨w.heap.size, i, none⟩ = (#[.slice aw ws.length cw, .int .i64 sm, .int .i64 toh, .int .i64 top, .bool cyc, .int .i64 sn, .int .i64 old, .int .i64 cp, .int .i64 sr, .slice ar rs.length cr] : Array Value)[i]?) /\ (∀ i, V.cell? ⟨w4.heap.size, i, none⟩ = (#[.slice (some ⟨x3, 0, none⟩) ws.length ws.length, .int .i64 sm, .int .i64 toh, .int .i64 top, .bool cyc, .int .i64 sn, .int .i64 old, .int .i64 cp, .int .i64 sr, .slice (some ⟨x4, 0, none⟩) rs.length rs.length] : Array Value)[i]?)) := fun V hV => ⟨hV, ze k6 hV (by omega), ze p6 hV (by omega)⟩
   have b6' := (Below.refl w6.heap.size w6).drew
   have HK : Hid (∀ V, Below w6.heap.size w6 V -> (∀ i, V.cell? ⟨w.heap.size, i, none⟩ = (#[.slice aw ws.length cw, .int .i64 sm, .int .i64 toh, .int .i64 top, .bool cyc, .int .i64 sn, .int .i64 old, .int .i64 cp, .int .i64 sr, .slice ar rs.length cr] : Array Value)[i]?) /\ (∀ i, V.cell? ⟨w3.heap.size, i, none⟩ = (#[.slice a1 n c1, .int .i64 semj, .int .i64 tohj, .int .i64 topj, .bool cycj, .int .i64 scanj, .int .i64 oldj, .int .i64 copiedj, .int .i64 serialj, .slice a2 m c2] : Array Value)[i]?) /\ (∀ i, V.cell? ⟨w4.heap.size, i, none⟩ = (#[.slice (some ⟨x3, 0, none⟩) ws.length ws.length, .int .i64 sm, .int .i64 toh, .int .i64 top, .bool cyc, .int .i64 sn, .int .i64 old, .int .i64 cp, .int .i64 sr, .slice (some ⟨x4, 0, none⟩) rs.length rs.length] : Array Value)[i]?) /\ (∀ i, V.cell? ⟨w5.heap.size, i, none⟩ = (#[.slice a3 n c3, .int .i64 semj, .int .i64 tohj, .int .i64 topj, .bool cycj, .int .i64 scanj, .int .i64 oldj, .int .i64 copiedj, .int .i64 serialj, .slice a4 m c4] : Array Value)[i]?)) := fun V hV => ⟨ze k6 hV (by omega), ze q6 hV (by omega), ze p6 hV (by omega), ze g6 hV (by omega)⟩
   have F6 := ox.sl.1
   have R6' := ox.sl.2
   have HS6 : Hid (SlF w3.heap.size w6 (.slice a1 n c1) n n (fun i => .int .u64 (z i))) := S6
   have HR6 : Hid (SlF w3.heap.size w6 (.slice a2 m c2) m (2 * m) (fun i => .int .i64 (yj i))) := R6
   have Ho6 : Hid (zbi (w4.heap.size + 1) w5.heap.size w6 (.slice a3 n c3) (.slice a4 m c4) n m z yj) := o6
   have Hox : Hid (zbi (w3.heap.size + 1) w4.heap.size w6 (.slice (some ⟨x3, 0, none⟩) ws.length ws.length) (.slice (some ⟨x4, 0, none⟩) rs.length rs.length) ws.length rs.length (za ws) y) := ox
   clear k6 q6 p6 g6 HSZ HSP S6 R6 o6 ox
   go_region_held3 (fun V => Below w6.heap.size w6 V /\ (∀ i, V.cell? ⟨w.heap.size, i, none⟩ = (#[.slice aw ws.length cw, .int .i64 sm, .int .i64 toh, .int .i64 top, .bool cyc, .int .i64 sn, .int .i64 old, .int .i64 cp, .int .i64 sr, .slice ar rs.length cr] : Array Value)[i]?) /\ (∀ i, V.cell? ⟨w4.heap.size, i, none⟩ = (#[.slice (some ⟨x3, 0, none⟩) ws.length ws.length, .int .i64 sm, .int .i64 toh, .int .i64 top, .bool cyc, .int .i64 sn, .int .i64 old, .int .i64 cp, .int .i64 sr, .slice (some ⟨x4, 0, none⟩) rs.length rs.length] : Array Value)[i]?)) (first | assumption | exact KP _ b6' | exact KP _ (by assumption)) (first | (go_at_call 22; refine (HTA.out _ (zc B6 (And.left (by assumption)))).mono ?_; rintro e w7 ⟨x5, x6, rfl, o7, bb⟩; have hB7 := zc (w := w6) (And.left (by assumption)) bb; clear bb) | (go_at_call 24; refine (zet _ _ _ _ _ _ _ _ ws.length rs.length (za ws) y _ _ _ _ _ _ _ _ _ (F6.below hB7 (by omega)) o7.sl.1 hn (R6'.below hB7 (by omega)) o7.sl.2 hn2).mono ?_; rintro e w8 ⟨rfl, bb⟩; have hB8 := zc (w := w6) hB7 bb; clear bb))
   all_goals
    have B8 := zc B6 hB8
    obtain ⟨k8, q8, p8, g8⟩ := HK.out _ hB8
    have z8 := hB8.size
    have o8 := Ho6.out.below hB8 (by omega)
    have ox8 := Hox.out.below hB8 (by omega)
    have S8 := HS6.out.below hB8 (by omega)
    have R8 := HR6.out.below hB8 (by omega)
    clear HK KP hB7 hB8 o7 F6 R6' HS6 HR6 Ho6 Hox b6'
    obtain ⟨y1, t1, y2, t2, g1, g2, g3, g4, g5, gg6, g7⟩ := ox8
    go_wp2_with fail
    refine (zhd y1 t1 y2 t2 (w3.heap.size + 1) w4.heap.size _ _ ws.length rs.length (za ws) y _ _ _ _ _ _ _ _ _ gg6 hn g7 hn2 g5 (by omega) g2 (by omega) g4 (by omega)).mono ?_
    rintro e w9 ⟨rfl, _, _, A9⟩
    have k9 := zdk k8 A9 (by omega) (by omega)
    have q9 := zdk q8 A9 (by omega) (by omega)
    have g9 := zdk g8 A9 (by omega) (by omega)
    have S9 := S8.apart A9 (by omega)
    have R9 := R8.apart A9 (by omega)
    have zb := B3.size
    have B9 := B8.trans (A9.below (by omega) (by omega))
    have z9 := A9.size
    have o9 := zo6 o8 A9 (by omega)
    clear k8 q8 p8 g8 S8 R8 A9 gg6 g7 o8
    go_wp2_with fail
    refine (zet _ _ _ _ _ _ _ _ n m z yj _ _ _ _ _ _ _ _ _ o9.sl.1 S9 hnn o9.sl.2 R9 hmm).mono ?_
    rintro e w10 ⟨rfl, b10⟩
    have B10 := zc B9 b10
    have z10 := b10.size
    have k10 := ze k9 b10 (by omega)
    have q10 := ze q9 b10 (by omega)
    have g10 := ze g9 b10 (by omega)
    have S10 := S9.below b10 (by omega)
    have R10 := R9.below b10 (by omega)
    have o10 := o9.below b10 (by omega)
    clear k9 q9 g9 S9 R9 o9 b10
    obtain ⟨u1, v1, u2, v2, i1, i2, i3, i4, i5, i6, i7⟩ := o10
    go_wp2_with fail
    refine (zhd u1 v1 u2 v2 (w4.heap.size + 1) w5.heap.size _ _ n m z yj _ _ _ _ _ _ _ _ _ i6 hnn i7 hmm i5 (by omega) i2 (by omega) i4 (by omega)).mono ?_
    rintro e w11 ⟨rfl, h11, r11, A11⟩
    have k11 := zdk k10 A11 (by omega) (by omega)
    have q11 := zdk q10 A11 (by omega) (by omega)
    have g11 := zdk g10 A11 (by omega) (by omega)
    have S11 := S10.apart A11 (by omega)
    have R11 := R10.apart A11 (by omega)
    have B11 := B10.trans (A11.below (by omega) (by omega))
    have z11 := A11.size
    clear k10 q10 g10 S10 R10 A11 i6 i7
    go_wp2_with fail
    refine (zhe _ _ _ _ n m _ _ _ _ _ _ _ _ _ h11.sl hnn r11.sl hmm).mono ?_
    rintro e w12 ⟨rfl, b12⟩
    have z12 := b12.size
    have k12 := ze k11 b12 (by omega)
    have q12 := ze q11 b12 (by omega)
    have g12 := ze g11 b12 (by omega)
    have h12 := h11.below b12 (by omega)
    have r12 := r11.below b12 (by omega)
    have S12 := S11.below b12 (by omega)
    have R12 := R11.below b12 (by omega)
    have B12 := zc B11 b12
    clear k11 q11 g11 h11 r11 S11 R11 b12
    go_wp2_with fail
    refine (HTA.out _ B12).mono ?_
    rintro e w13 ⟨x7, x8, rfl, o13, b13⟩
    have z13 := b13.size
    have q13 := ze q12 b13 (by omega)
    have g13 := ze g12 b13 (by omega)
    have h13 := h12.below b13 (by omega)
    have r13 := r12.below b13 (by omega)
    have S13 := S12.below b13 (by omega)
    have R13 := R12.below b13 (by omega)
    have B13 := zc B12 b13
    obtain ⟨s13, l13⟩ := zja o13
    clear k12 q12 g12 h12 r12 S12 R12 b13 o13
    go_wp2_with fail
    refine (HIM.out (some ⟨x7, 0, none⟩) ws.length (some ⟨x8, 0, none⟩) rs.length _ _ s13 (Nat.le_refl _) l13).mono ?_
    rintro e w14 ⟨vw, vr, rfl, o14, b14⟩
    obtain ⟨a5, c5, rfl⟩ := o14.sl.1.head
    obtain ⟨a6, c6, rfl⟩ := o14.sl.2.head
    have z14 := b14.size
    have q14 := ze q13 b14 (by omega)
    have g14 := ze g13 b14 (by omega)
    have h14 := h13.below b14 (by omega)
    have r14 := r13.below b14 (by omega)
    have S14 := S13.below b14 (by omega)
    have R14 := R13.below b14 (by omega)
    have B14 := zc B13 b14
    clear q13 g13 h13 r13 S13 R13 b14 s13 l13
    have A14 : Below w14.heap.size w14 (w14.alloc (.cells #[.slice a5 n c5, .int .i64 semj, .int .i64 tohj, .int .i64 topj, .bool cycj, .int .i64 scanj, .int .i64 oldj, .int .i64 copiedj, .int .i64 serialj, .slice a6 m c6] 30)) := (Below.refl _ _).alloc (Nat.le_refl _) _
    have l5 : w3.heap.size < w14.heap.size := by omega
    have l7 : w5.heap.size < w14.heap.size := by omega
    go_wp2_with fail
    refine (zet _ _ _ _ _ _ _ _ n m z yj _ _ _ _ _ _ _ _ _ (o14.sl.1.below A14 (Nat.le_refl _)) (S14.below A14 (by omega)) hnn (o14.sl.2.below A14 (Nat.le_refl _)) (R14.below A14 (by omega)) hmm).mono ?_
    rintro e w15 ⟨rfl, b15⟩
    have z15 := zr b15
    have g15 := ze g14 (zd b15) (by omega)
    have h15 := h14.below (zd b15) (by omega)
    have r15 := r14.below (zd b15) (by omega)
    have B15 := zc B14 (zd b15)
    clear q14 g14 h14 r14 S14 R14 A14 b15 o14
    go_wp2_with fail
    refine (zhe _ _ _ _ n m _ _ _ _ _ _ _ _ _ h15.sl hnn r15.sl hmm).mono ?_
    rintro e w16 ⟨rfl, b16⟩
    have B16 := zc B15 b16
    go_wp2
    go_ret
    exact ⟨rfl, B16⟩
 · have HSZ : ∀ W, _ := fun W => zil aw ws.length cw sm toh top cyc sn old cp sr ar rs.length cr W hl1 hl2
   rw [if_neg h] at HSZ
   clear hs hrt h hspec himpl
   go_enter Tryz.func15, Tryz.ntmps15
   go_wp2_with (go_at_call 20; refine (HSZ _).mono ?_; rintro e w1 ⟨rfl, b1⟩)
   go_ret
   exact ⟨rfl, zd b1⟩
end Go.Proofs.YtaapiedminakcaaGreat
