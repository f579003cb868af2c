/- - -/
import Derived.Test.YtdnhohndppmgcaaGreatDoorLLdE
namespace Go.Proofs.YtdnhohndppmgcaaGreatDoor
set_option maxRecDepth 20000
open Go.RowKit
set_option linter.unusedSimpArgs false
set_option linter.unusedVariables false
theorem zpp {ws : List Int} {sm toh top : Int} {sn old cp sr : Int} {y : Nat -> Int} {rl : Nat} (hw : zg ws) (hok : zbm ws sm toh top true sn old cp sr y rl) :
 ∃ (S T E F Od sc C : Nat) (L O : List Nat), top = T /\ sn = sc /\ old = Od /\ cp = C /\ Cyc ⟨ws, T, C⟩ S E F Od sc 0 L O /\ zg0 y rl L /\ ze6 sm toh S E F Od /\ C <= T + 8000 /\ E <= 8000 /\ 0 < ws.length := by
 obtain ⟨s0, s1, hl, t0, t1, hrl, h1, h2, hold⟩ := zc4 hok.1
 obtain ⟨g1, g2, g3, g4, g5⟩ := zcv s0 s1 hl t0 t1 h1 h2
 obtain ⟨a, b⟩ := hold rfl
 obtain ⟨o1, o2⟩ := g5 old a b
 have h3 : ze0 sm toh top old cp = true := by
  have := hok.1
  unfold zcl at this
  simp only [if_true, Bool.and_eq_true] at this
  exact this.2
 have h3' := of_decide_eq_true h3
 unfold zca at h3'
 have hsc0 : 0 <= sn := by 
  obtain ⟨L, O, ht, _⟩ := hok.2
  obtain ⟨_, _, _, r4⟩ := ht.runs rfl
  rcases r4 with g | ⟨g6, g7, g⟩ <;> omega
 have hc : toh = 0 \/ toh = 1 := by omega
 obtain ⟨T, rfl⟩ := Int.eq_ofNat_of_zero_le (a := top) (by rcases hc with rfl | rfl <;> omega)
 obtain ⟨N, rfl⟩ := Int.eq_ofNat_of_zero_le (a := sm) (by omega)
 obtain ⟨Od, rfl⟩ := Int.eq_ofNat_of_zero_le (a := old) (by rcases hc with rfl | rfl <;> omega)
 obtain ⟨C, rfl⟩ := Int.eq_ofNat_of_zero_le (a := cp) (by rcases hc with rfl | rfl <;> omega)
 obtain ⟨sc, rfl⟩ := Int.eq_ofNat_of_zero_le hsc0
 rcases hc with rfl | rfl
 · obtain ⟨L, O, hcy, hy⟩ := zt4 (S := 1) (T := T) (E := N) (F := N + 1) (sc := sc) (Od := Od) (C := C) hw hok (by omega) rfl (by omega) (by omega) rfl rfl rfl
   exact ⟨1, T, N, N + 1, Od, sc, C, L, O, rfl, rfl, rfl, rfl, hcy, hy, ⟨s0, s1, by omega, by omega, by omega, by omega, by omega, by omega⟩, by omega, by omega, by omega⟩
 · obtain ⟨L, O, hcy, hy⟩ := zt4 (S := N + 1) (T := T) (E := 2 * N) (F := 1) (sc := sc) (Od := Od) (C := C) hw hok (by omega) rfl (by omega) (by omega) rfl rfl rfl
   exact ⟨N + 1, T, 2 * N, 1, Od, sc, C, L, O, rfl, rfl, rfl, rfl, hcy, hy, ⟨s0, s1, by omega, by omega, by omega, by omega, by omega, by omega⟩, by omega, by omega, by omega⟩
theorem zwq {ws : List Int} {sm toh top : Int} {cyc : Bool} {sn old cp sr : Int} {y : Nat -> Int} {rl : Nat} (hw : zg ws) (hok : zbm ws sm toh top cyc sn old cp sr y rl) {k : Nat} (hk : k < rl) (hr : isR (y (2 * k)) = true) :
 ∃ P : Nat, y (2 * k + 1) = (P : Int) /\ P < ws.length /\ zw (za ws P) = true := by
 obtain ⟨P, h1, h2, _, h3, _⟩ := zwo hw hok hk hr
 exact ⟨P, h1, by omega, h2⟩
def zxt (ws : List Int) (sm toh top : Int) (cyc : Bool) (sn old cp sr : Int) (rs : List (Int × Int)) (x : Nat) (T3 C3 m3 : Int) (ws3 : List Int) : Prop :=
 ∀ (bw cw : Nat) (ar : Option Addr) (cr : Nat) (W : World), RwW W bw ws -> Calls Tryz.prog 44 #[.agg #[.slice (some ⟨bw, 0, none⟩) ws.length cw, .int .i64 sm, .int .i64 toh, .int .i64 top, .bool cyc, .int .i64 sn, .int .i64 old, .int .i64 cp, .int .i64 sr, .slice ar rs.length cr], .int .i64 (x : Int)] W fun e w' => e = .returned (.tuple #[.agg #[.slice (some ⟨bw, 0, none⟩) ws.length cw, .int .i64 sm, .int .i64 toh, .int .i64 T3, .bool cyc, .int .i64 sn, .int .i64 old, .int .i64 C3, .int .i64 sr, .slice ar rs.length cr], .agg #[.int .i64 (rvT ws x), .int .i64 m3]]) /\ RwW w' bw ws3 /\ Kp [bw] W w'
def zv2 (ws : List Int) (sm toh top : Int) (cyc : Bool) (sn old cp sr : Int) (rs : List (Int × Int)) (x : Nat) (T3 C3 m3 : Int) (ws3 : List Int) : Prop :=
 ∀ (ob bw cw : Nat) (ar : Option Addr) (cr : Nat) (W : World), W.rowIs ob 29 10 (fun i => (#[.slice (some ⟨bw, 0, none⟩) ws.length cw, .int .i64 sm, .int .i64 toh, .int .i64 top, .bool cyc, .int .i64 sn, .int .i64 old, .int .i64 cp, .int .i64 sr, .slice ar rs.length cr] : Array Value).getD i (.bool false)) -> RwW W bw ws -> ob ≠ bw -> ws.length <= cw -> Calls Tryz.prog 134 #[.pointer (some ⟨ob, 0, none⟩), .int .i64 (x : Int)] W fun e w' => e = .returned (.agg #[.int .i64 (rvT ws x), .int .i64 m3]) /\ w'.rowIs ob 29 10 (fun i => (#[.slice (some ⟨bw, 0, none⟩) ws.length cw, .int .i64 sm, .int .i64 toh, .int .i64 T3, .bool cyc, .int .i64 sn, .int .i64 old, .int .i64 C3, .int .i64 sr, .slice ar rs.length cr] : Array Value).getD i (.bool false)) /\ RwW w' bw ws3 /\ Kp [ob, bw] W w'
theorem zua {ws : List Int} {sm toh top : Int} {cyc : Bool} {sn old cp sr : Int} {y : Nat -> Int} {rs : List (Int × Int)} (hw : zg ws) (hok : zbm ws sm toh top cyc sn old cp sr y rs.length) (hn : ws.length <= 1048576) {k P s : Nat} (hk : k < rs.length) (hr : isR (y (2 * k)) = true) (hP : y (2 * k + 1) = (P : Int)) (hs : s < zat ws P) :
 ∃ (T3 C3 m3 : Int) (ws3 : List Int), ws3.length = ws.length /\ zxt ws sm toh top cyc sn old cp sr rs (zn ws P s) T3 C3 m3 ws3 /\ zv2 ws sm toh top cyc sn old cp sr rs (zn ws P s) T3 C3 m3 ws3 := by
 cases cyc with
 | true =>
   obtain ⟨S, T, E, F, Od, sc, C, L, O, rfl, rfl, rfl, rfl, hC, hR, hH, hCT, hE, h0⟩ := zpp hw hok
   have hPL : P ∈ L := by have := (hR k hk hr).2; rw [hP] at this; simpa using this
   have href := hC.slot_ref hPL hs
   dsimp only at href
   obtain ⟨q1, q2, q3⟩ := hC.inL hPL
   dsimp only at q1 q2 q3
   obtain ⟨x1, x2⟩ := zes q2 hs
   unfold szA at q3
   have hTE := hC.TE
   have hEl := hC.hE
   dsimp only at hTE hEl
   have hx : zn ws P s + 1 < ws.length := by omega
   obtain ⟨f1, _⟩ := hC.fwd_same href
   refine ⟨((zag S ⟨ws, T, C⟩ (rvT ws (zn ws P s)) (rvN ws (zn ws P s))).T : Int), ((zag S ⟨ws, T, C⟩ (rvT ws (zn ws P s)) (rvN ws (zn ws P s))).C : Int), zax S ⟨ws, T, C⟩ (rvT ws (zn ws P s)) (rvN ws (zn ws P s)), zdf (zag S ⟨ws, T, C⟩ (rvT ws (zn ws P s)) (rvN ws (zn ws P s))).ws (zn ws P s) (rvT ws (zn ws P s)) (zax S ⟨ws, T, C⟩ (rvT ws (zn ws P s)) (rvN ws (zn ws P s))), (zvr _ _ _ _).trans f1, fun bw cw ar cr W hW => ?_, fun ob bw cw ar cr W hA hW hne hcw => ?_⟩
   · exact zsb bw cw ws sm toh T _ _ C sr ar cr rs _ _ _ _ W hW hC hH href (by omega) rfl hx rfl rfl
   · exact zt9 ob bw cw ws sm toh T true _ _ C sr ar cr rs _ _ _ _ W hA hW hne hcw hC hH href (by omega) rfl hx rfl rfl
 | false =>
   obtain ⟨s0, s1, hl, t0, t1, hrl, h1, h2, hold⟩ := zc4 hok.1
   obtain ⟨g1, g2, g3, g4, g5⟩ := zcv s0 s1 hl t0 t1 h1 h2
   obtain ⟨T, rfl⟩ := Int.eq_ofNat_of_zero_le (show 0 <= top by omega)
   obtain ⟨S, hS⟩ := Int.eq_ofNat_of_zero_le (show 0 <= toh * sm + 1 by omega)
   obtain ⟨E, hE⟩ := Int.eq_ofNat_of_zero_le (show 0 <= (toh + 1) * sm by have hc : toh = 0 \/ toh = 1 := (by omega); rcases hc with rfl | rfl <;> omega)
   obtain ⟨L, hSt, hR⟩ := zvo hw hok hS rfl hE
   have hPL : P ∈ L := by have := (hR k hk hr).2; rw [hP] at this; simpa using this
   obtain ⟨u1, u2⟩ := hSt.slL P hPL s hs
   obtain ⟨q1, q2, sz, q4, q5⟩ := hSt.use.mem P hPL
   obtain ⟨q6, rfl⟩ := zhj q4
   obtain ⟨x1, x2⟩ := zes q6 hs
   have hT := hSt.hT
   have hEl := hSt.hE
   have hx : zn ws P s + 1 < ws.length := by omega
   have hm : isR (rvT ws (zn ws P s)) = true -> (S : Int) <= rvN ws (zn ws P s) /\ rvN ws (zn ws P s) < (T : Int) := fun g => by
    have h3 := zgv hw u1 g
    obtain ⟨m1, m2, _⟩ := hSt.use.mem _ (u2 g)
    omega
   obtain ⟨C, hC⟩ : ∃ C : Int, C = cp := ⟨_, rfl⟩
   refine ⟨(T : Int), cp, rvN ws (zn ws P s), ws, rfl, fun bw cw ar cr W hW => ?_, fun ob bw cw ar cr W hA hW hne hcw => ?_⟩
   · exact (zub bw cw ws sm toh (T : Int) sn old cp sr ar cr rs _ _ _ _ W hW hw hn rfl hx rfl rfl).mono fun e w' ⟨h1, h2⟩ => ⟨h1, Rw.below hW h2, Kp.of_below h2⟩
   · have hps := zt8 hw hx u1
     obtain ⟨C, rfl⟩ := Int.eq_ofNat_of_zero_le (show 0 <= cp by
      have h5 : zf7 sn old cp = true := by
       have := hok.1
       unfold zcl at this
       simp at this
       exact this.2
      have := of_decide_eq_true h5
      omega)
     have := zn9 ob bw cw ws sm toh T false sn old C sr ar cr rs _ _ _ _ W hA hW hne hw hn (S : Int) t0 t1 s0 s1 hS hm rfl hx rfl rfl
     rw [hps] at this
     exact this
theorem zpo (b off cw : Nat) (ws : List Int) (sm toh top : Int) (cyc : Bool) (sn old cp sr : Int) (ar : Option Addr) (cr : Nat) (rs : List (Int × Int)) (P s : Nat) (w : World) (hb : b < w.heap.size) (hc : ∀ i, i < ws.length -> w.cell? ⟨b, off + i, none⟩ = some (.int .u64 (za ws i))) (hn : ws.length <= 1048576) (hw : zg ws) (hP : P < ws.length) (hrd : zw (za ws P) = true) (hs : s < zat ws P) :
 Calls Tryz.prog 133 #[.agg #[.slice (some ⟨b, off, none⟩) ws.length cw, .int .i64 sm, .int .i64 toh, .int .i64 top, .bool cyc, .int .i64 sn, .int .i64 old, .int .i64 cp, .int .i64 sr, .slice ar rs.length cr], .int .i64 (P : Int), .int .i64 (s : Int)] w fun e w' => e = .returned (.tuple #[.int .i64 ((zn ws P s : Nat) : Int), .bool true]) /\ Below w.heap.size w w' := by
 have hk16 : 1 <= rdK (za ws P) /\ rdK (za ws P) <= 6 := by
  have h := of_decide_eq_true (zc0 hrd)
  omega
 obtain ⟨fF, hmF, hfF, henF⟩ := zhe hk16.1 hk16.2
 have hS0 := za1 (za ws P)
 have hfg := zii (rdK (za ws P))
 refine (zkm b off cw ws sm toh top cyc sn old cp sr ar cr rs P (zat ws P) fF (rdK (za ws P)) (rdS (za ws P)) (fs (rdK (za ws P))) (s : Int) (zdt (rdK (za ws P))) w hb hc hn hw hP rfl rfl hS0.1 (by omega) hfg.1 hfg.2 (fun m => zez (zc0 hrd) m) rfl hmF hfF henF).mono fun e w' ⟨h1, h2⟩ => ⟨?_, h2⟩
 rcases h1 with ⟨j, hj, hje, he⟩ | ⟨hno, _⟩
 · have hjs : j = s := by omega
   subst hjs
   rw [he]
   have hx : (P : Int) + fs (rdK (za ws P)) + 2 * (j : Int) = ((zn ws P j : Nat) : Int) := by unfold zn; omega
   rw [hx]
 · exact absurd rfl (hno s hs)
theorem zsa (b off cw : Nat) (ws : List Int) (sm toh top : Int) (cyc : Bool) (sn old cp sr : Int) (ar : Option Addr) (cr : Nat) (rs : List (Int × Int)) (P : Nat) (sl : Int) (w : World) (hb : b < w.heap.size) (hc : ∀ i, i < ws.length -> w.cell? ⟨b, off + i, none⟩ = some (.int .u64 (za ws i))) (hn : ws.length <= 1048576) (hw : zg ws) (hP : P < ws.length) (hrd : zw (za ws P) = true) (hs : inB sl 0 ((zat ws P : Nat) - 1) = false) :
 Calls Tryz.prog 133 #[.agg #[.slice (some ⟨b, off, none⟩) ws.length cw, .int .i64 sm, .int .i64 toh, .int .i64 top, .bool cyc, .int .i64 sn, .int .i64 old, .int .i64 cp, .int .i64 sr, .slice ar rs.length cr], .int .i64 (P : Int), .int .i64 sl] w fun e w' => e = .returned (.tuple #[.int .i64 0, .bool false]) /\ Below w.heap.size w w' := by
 have hk16 : 1 <= rdK (za ws P) /\ rdK (za ws P) <= 6 := by
  have h := of_decide_eq_true (zc0 hrd)
  omega
 obtain ⟨fF, hmF, hfF, henF⟩ := zhe hk16.1 hk16.2
 have hS0 := za1 (za ws P)
 have hfg := zii (rdK (za ws P))
 refine (zkm b off cw ws sm toh top cyc sn old cp sr ar cr rs P (zat ws P) fF (rdK (za ws P)) (rdS (za ws P)) (fs (rdK (za ws P))) sl (zdt (rdK (za ws P))) w hb hc hn hw hP rfl rfl hS0.1 (by omega) hfg.1 hfg.2 (fun m => zez (zc0 hrd) m) rfl hmF hfF henF).mono fun e w' ⟨h1, h2⟩ => ⟨?_, h2⟩
 rcases h1 with ⟨j, hj, hje, he⟩ | ⟨_, he⟩
 · have := of_decide_eq_false hs
   omega
 · exact he
set_option maxHeartbeats 2000000 in
theorem zem (aw : Option Addr) (cw : Nat) (ws : List Int) (sm toh top : Int) (cyc : Bool) (sn old cp sr : Int) (ar : Option Addr) (cr : Nat) (rs : List (Int × Int)) (r sl f : Int) (semj tohj topj : Int) (cycj : Bool) (scanj oldj copiedj serialj : Int) (zj yj : Nat -> Int) (c : Int) (b : Bool) (w : World) (hc : (c == 0) = b)
 (hE : ∀ W, Below w.heap.size w W -> Calls Tryz.prog 47 #[.agg #[.slice aw ws.length cw, .int .i64 sm, .int .i64 toh, .int .i64 top, .bool cyc, .int .i64 sn, .int .i64 old, .int .i64 cp, .int .i64 sr, .slice ar rs.length cr], .int .i64 0, .agg #[.pointer none, .int .i64 r, .int .i64 0, .int .i64 0, .int .i64 0, .int .i64 f, .int .i64 0, .int .i64 sl, .int .i64 0, .slice none 0 0, .string ⟨#[]⟩]] W fun e w' => ∃ vw vr, e = .returned (.tuple #[.agg #[vw, .int .i64 semj, .int .i64 tohj, .int .i64 topj, .bool cycj, .int .i64 scanj, .int .i64 oldj, .int .i64 copiedj, .int .i64 serialj, vr], .int .i64 c]) /\ zak W.heap.size w'.heap.size w' vw vr ws.length rs.length zj yj /\ Below W.heap.size W w') :
 Calls Tryz.prog 14 #[.agg #[.slice aw ws.length cw, .int .i64 sm, .int .i64 toh, .int .i64 top, .bool cyc, .int .i64 sn, .int .i64 old, .int .i64 cp, .int .i64 sr, .slice ar rs.length cr], .int .i64 r, .int .i64 sl, .int .i64 f] w fun e w' => ∃ vw vr, e = .returned (.tuple #[.agg #[vw, .int .i64 semj, .int .i64 tohj, .int .i64 topj, .bool cycj, .int .i64 scanj, .int .i64 oldj, .int .i64 copiedj, .int .i64 serialj, vr], .bool b]) /\ zak w.heap.size w'.heap.size w' vw vr ws.length rs.length zj yj /\ Below w.heap.size w w' := by
 have HE : Hid (∀ W, Below w.heap.size w W -> Calls Tryz.prog 47 #[.agg #[.slice aw ws.length cw, .int .i64 sm, .int .i64 toh, .int .i64 top, .bool cyc, .int .i64 sn, .int .i64 old, .int .i64 cp, .int .i64 sr, .slice ar rs.length cr], .int .i64 0, .agg #[.pointer none, .int .i64 r, .int .i64 0, .int .i64 0, .int .i64 0, .int .i64 f, .int .i64 0, .int .i64 sl, .int .i64 0, .slice none 0 0, .string ⟨#[]⟩]] W fun e w' => ∃ vw vr, e = .returned (.tuple #[.agg #[vw, .int .i64 semj, .int .i64 tohj, .int .i64 topj, .bool cycj, .int .i64 scanj, .int .i64 oldj, .int .i64 copiedj, .int .i64 serialj, vr], .int .i64 c]) /\ zak W.heap.size w'.heap.size w' vw vr ws.length rs.length zj yj /\ Below W.heap.size W w') := hE
 clear hE
 go_enter Tryz.func14, Tryz.ntmps14
 go_wp2_with fail
 refine (HE.out _ (zk (Below.refl _ _))).mono ?_
 rintro e w1 ⟨vw, vr, rfl, o1, b1⟩
 simp only [World.size_alloc] at o1
 obtain ⟨a1, c1, rfl⟩ := o1.sl.1.head
 obtain ⟨a2, c2, rfl⟩ := o1.sl.2.head
 have B1 := zk b1
 have l1 : w.heap.size + 1 < w1.heap.size := by have := b1.size; simp at this; omega
 obtain ⟨_, hres⟩ := zc9 (n := 10) b1 (by simp) rfl rfl
 have Z1 : w1.rowIs (w.heap.size + 1) 29 10 (fun i => (#[.slice none 0 0, .int .i64 0, .int .i64 0, .int .i64 0, .bool false, .int .i64 0, .int .i64 0, .int .i64 0, .int .i64 0, .slice none 0 0] : Array Value).getD i (.bool false)) := hres
 obtain ⟨d0, d1, d2, d3, d4, d5, d6, d7, d8, d9⟩ := zce Z1 rfl rfl rfl rfl rfl rfl rfl rfl rfl rfl
 simp at d0 d1 d2 d3 d4 d5 d6 d7 d8 d9
 have ef := World.rowIs.frozen Z1
 have ne1 : w.heap.size + 1 ≠ w1.heap.size := by omega
 have HO : Hid (zak (w.heap.size + 1 + 1) w1.heap.size w1 (.slice a1 ws.length c1) (.slice a2 rs.length c2) ws.length rs.length zj yj) := o1
 have HB : Hid (Below w.heap.size w w1) := B1
 clear o1 b1 hres Z1 B1
 go_wp2
 have q0 : (w1.cell? ⟨w.heap.size + 1, 0, none⟩).isSome = true := by rw [d0]; rfl
 have q1 : (w1.cell? ⟨w.heap.size + 1, 1, none⟩).isSome = true := by rw [d1]; rfl
 have q2 : (w1.cell? ⟨w.heap.size + 1, 2, none⟩).isSome = true := by rw [d2]; rfl
 have q3 : (w1.cell? ⟨w.heap.size + 1, 3, none⟩).isSome = true := by rw [d3]; rfl
 have q4 : (w1.cell? ⟨w.heap.size + 1, 4, none⟩).isSome = true := by rw [d4]; rfl
 have q5 : (w1.cell? ⟨w.heap.size + 1, 5, none⟩).isSome = true := by rw [d5]; rfl
 have q6 : (w1.cell? ⟨w.heap.size + 1, 6, none⟩).isSome = true := by rw [d6]; rfl
 have q7 : (w1.cell? ⟨w.heap.size + 1, 7, none⟩).isSome = true := by rw [d7]; rfl
 have q8 : (w1.cell? ⟨w.heap.size + 1, 8, none⟩).isSome = true := by rw [d8]; rfl
 have q9 : (w1.cell? ⟨w.heap.size + 1, 9, none⟩).isSome = true := by rw [d9]; rfl
 refine bodyPost_ret (v := .tuple #[.agg #[.slice a1 ws.length c1, .int .i64 semj, .int .i64 tohj, .int .i64 topj, .bool cycj, .int .i64 scanj, .int .i64 oldj, .int .i64 copiedj, .int .i64 serialj, .slice a2 rs.length c2], .bool b]) (by simp [results, Tryz.results14, go_sem, q0, q1, q2, q3, q4, q5, q6, q7, q8, q9, hc, ne1, World.cell?_alloc_lt, l1]) rfl ⟨_, _, rfl, ?_, ?_⟩
 · obtain ⟨u1, t1, u2, t2, h1, h2, h3, h4, h5, h6, h7⟩ := HO.out
   exact ⟨u1, t1, u2, t2, by omega, by simp; omega, by omega, by simp; omega, h5, (za9 h6 (by omega)).below ((Below.refl _ _).alloc (Nat.le_refl _) _) (by simp; omega), (za9 h7 (by omega)).below ((Below.refl _ _).alloc (Nat.le_refl _) _) (by simp; omega)⟩
 · exact zao (zbo HB.out (by omega)) _
theorem zl4 (aw : Option Addr) (cw : Nat) (ws : List Int) (sm toh top : Int) (cyc : Bool) (sn old cp sr : Int) (ar : Option Addr) (cr : Nat) (rs : List (Int × Int)) (r sl f : Int) (y : Nat -> Int) (Tr : Nat) (w : World) (hs : Sl w (.slice aw ws.length cw) ws) (hcw : ws.length <= cw) (hn : ws.length <= 1048576) (hw : zg ws) (hrt : SlF Tr w (.slice ar rs.length cr) rs.length (2 * rs.length) (fun i => .int .i64 (y i))) (hn2 : rs.length <= 1048576) (hok : ¬ zbm ws sm toh top cyc sn old cp sr y rs.length) :
 Calls Tryz.prog 14 #[.agg #[.slice aw ws.length cw, .int .i64 sm, .int .i64 toh, .int .i64 top, .bool cyc, .int .i64 sn, .int .i64 old, .int .i64 cp, .int .i64 sr, .slice ar rs.length cr], .int .i64 r, .int .i64 sl, .int .i64 f] w fun e w' => ∃ vw vr, e = .returned (.tuple #[.agg #[vw, .int .i64 sm, .int .i64 toh, .int .i64 top, .bool cyc, .int .i64 sn, .int .i64 old, .int .i64 cp, .int .i64 sr, vr], .bool false]) /\ zak w.heap.size w'.heap.size w' vw vr ws.length rs.length (za ws) y /\ Below w.heap.size w w' := 
 zem aw cw ws sm toh top cyc sn old cp sr ar cr rs r sl f sm toh top cyc sn old cp sr (za ws) y 1 false w rfl (fun W hW => zsk aw cw ws sm toh top cyc sn old cp sr ar cr rs 0 0 r 0 0 0 f 0 sl 0 none 0 0 ⟨#[]⟩ y w.heap.size W (hs.below hW) hcw hn hw (hrt.here.below hW (Nat.le_refl _)) hn2 hok)
theorem zhp (aw : Option Addr) (cw : Nat) (ws : List Int) (sm toh top : Int) (cyc : Bool) (sn old cp sr : Int) (ar : Option Addr) (cr : Nat) (rs : List (Int × Int)) (r sl f : Int) (y : Nat -> Int) (Tr : Nat) (w : World) (hs : Sl w (.slice aw ws.length cw) ws) (hcw : ws.length <= cw) (hn : ws.length <= 1048576) (hw : zg ws) (hrt : SlF Tr w (.slice ar rs.length cr) rs.length (2 * rs.length) (fun i => .int .i64 (y i))) (hn2 : rs.length <= 1048576) (hok : zbm ws sm toh top cyc sn old cp sr y rs.length) (hg : w.cell? ⟨0, 0, none⟩ = some (.iface 143 (.agg #[.pointer (some ⟨2, 99, none⟩)]))) (hr : ¬ (zbf r rs.length = true /\ zbf f rs.length = true)) :
 Calls Tryz.prog 14 #[.agg #[.slice aw ws.length cw, .int .i64 sm, .int .i64 toh, .int .i64 top, .bool cyc, .int .i64 sn, .int .i64 old, .int .i64 cp, .int .i64 sr, .slice ar rs.length cr], .int .i64 r, .int .i64 sl, .int .i64 f] w fun e w' => ∃ vw vr, e = .returned (.tuple #[.agg #[vw, .int .i64 sm, .int .i64 toh, .int .i64 top, .bool cyc, .int .i64 sn, .int .i64 old, .int .i64 cp, .int .i64 sr, vr], .bool false]) /\ zak w.heap.size w'.heap.size w' vw vr ws.length rs.length (za ws) y /\ Below w.heap.size w w' :=
 zem aw cw ws sm toh top cyc sn old cp sr ar cr rs r sl f sm toh top cyc sn old cp sr (za ws) y 1 false w rfl (fun W hW => ze9 aw cw ws sm toh top cyc sn old cp sr ar cr rs r 0 0 0 f 0 sl 0 none 0 0 ⟨#[]⟩ y w.heap.size W (hs.below hW) hcw hn hw (hrt.here.below hW (Nat.le_refl _)) hn2 hok (by rw [hW.cell (p := ⟨0, 0, none⟩) (World.block_lt_of_cell? _ ⟨0, 0, none⟩ hg)]; exact hg) (fun bw br vb ob cw' cr' ar' W v1 v2 o1 _ _ _ _ n2 _ _ _ _ _ _ =>
  (zr9 bw cw' ws sm toh top cyc sn old cp sr ar' cr' rs br y vb ob #[.pointer (some ⟨ob, 0, none⟩), .int .i64 r, .int .i64 0, .int .i64 0, .int .i64 0, .int .i64 f, .int .i64 0, .int .i64 sl, .int .i64 0, .slice none 0 0, .string ⟨#[]⟩] r f W rfl v1 v2 o1 (World.block_lt_of_cell? _ ⟨ob, 0, none⟩ (o1 0)) hn2 rfl rfl hr).mono fun e w' ⟨h1, h2⟩ => ⟨h1, Kp.of_below h2⟩))
theorem zhq (aw : Option Addr) (cw : Nat) (ws : List Int) (sm toh top : Int) (cyc : Bool) (sn old cp sr : Int) (ar : Option Addr) (cr : Nat) (rs : List (Int × Int)) (k j : Nat) (sl : Int) (y : Nat -> Int) (Tr : Nat) (w : World) (hs : Sl w (.slice aw ws.length cw) ws) (hcw : ws.length <= cw) (hn : ws.length <= 1048576) (hw : zg ws) (hrt : SlF Tr w (.slice ar rs.length cr) rs.length (2 * rs.length) (fun i => .int .i64 (y i))) (hn2 : rs.length <= 1048576) (hok : zbm ws sm toh top cyc sn old cp sr y rs.length) (hg : w.cell? ⟨0, 0, none⟩ = some (.iface 143 (.agg #[.pointer (some ⟨2, 99, none⟩)]))) (hk : k < rs.length) (hj : j < rs.length) (h9 : isR (y (2 * k)) = true -> y (2 * k) = 4) :
 Calls Tryz.prog 14 #[.agg #[.slice aw ws.length cw, .int .i64 sm, .int .i64 toh, .int .i64 top, .bool cyc, .int .i64 sn, .int .i64 old, .int .i64 cp, .int .i64 sr, .slice ar rs.length cr], .int .i64 (k : Int), .int .i64 sl, .int .i64 (j : Int)] w fun e w' => ∃ vw vr, e = .returned (.tuple #[.agg #[vw, .int .i64 sm, .int .i64 toh, .int .i64 top, .bool cyc, .int .i64 sn, .int .i64 old, .int .i64 cp, .int .i64 sr, vr], .bool false]) /\ zak w.heap.size w'.heap.size w' vw vr ws.length rs.length (za ws) y /\ Below w.heap.size w w' :=
 zem aw cw ws sm toh top cyc sn old cp sr ar cr rs (k : Int) sl (j : Int) sm toh top cyc sn old cp sr (za ws) y 1 false w rfl (fun W hW => ze9 aw cw ws sm toh top cyc sn old cp sr ar cr rs (k : Int) 0 0 0 (j : Int) 0 sl 0 none 0 0 ⟨#[]⟩ y w.heap.size W (hs.below hW) hcw hn hw (hrt.here.below hW (Nat.le_refl _)) hn2 hok (by rw [hW.cell (p := ⟨0, 0, none⟩) (World.block_lt_of_cell? _ ⟨0, 0, none⟩ hg)]; exact hg) (fun bw br vb ob cw' cr' ar' W v1 v2 o1 _ _ r1 _ _ _ _ _ _ _ _ =>
  (zvq bw cw' ws sm toh top cyc sn old cp sr ar' cr' rs br y vb ob #[.pointer (some ⟨ob, 0, none⟩), .int .i64 (k : Int), .int .i64 0, .int .i64 0, .int .i64 0, .int .i64 (j : Int), .int .i64 0, .int .i64 sl, .int .i64 0, .slice none 0 0, .string ⟨#[]⟩] W rfl v1 v2 o1 (World.block_lt_of_cell? _ ⟨ob, 0, none⟩ (o1 0)) hn2 r1 k j hk hj rfl rfl h9).mono fun e w' ⟨h1, h2⟩ => ⟨h1, Kp.of_below h2⟩))
theorem zl5 (aw : Option Addr) (cw : Nat) (ws : List Int) (sm toh top : Int) (cyc : Bool) (sn old cp sr : Int) (ar : Option Addr) (cr : Nat) (rs : List (Int × Int)) (k j P : Nat) (sl : Int) (y : Nat -> Int) (Tr : Nat) (w : World) (hs : Sl w (.slice aw ws.length cw) ws) (hcw : ws.length <= cw) (hn : ws.length <= 1048576) (hw : zg ws) (hrt : SlF Tr w (.slice ar rs.length cr) rs.length (2 * rs.length) (fun i => .int .i64 (y i))) (hn2 : rs.length <= 1048576) (hok : zbm ws sm toh top cyc sn old cp sr y rs.length) (hg : w.cell? ⟨0, 0, none⟩ = some (.iface 143 (.agg #[.pointer (some ⟨2, 99, none⟩)]))) (hk : k < rs.length) (hj : j < rs.length) (hr0 : isR (y (2 * k)) = true) (h40 : y (2 * k) ≠ 4) (hp : y (2 * k + 1) = (P : Int)) (hP : P < ws.length) (hrd : zw (za ws P) = true) (hin : inB sl 0 ((zat ws P : Nat) - 1) = false) :
 Calls Tryz.prog 14 #[.agg #[.slice aw ws.length cw, .int .i64 sm, .int .i64 toh, .int .i64 top, .bool cyc, .int .i64 sn, .int .i64 old, .int .i64 cp, .int .i64 sr, .slice ar rs.length cr], .int .i64 (k : Int), .int .i64 sl, .int .i64 (j : Int)] w fun e w' => ∃ vw vr, e = .returned (.tuple #[.agg #[vw, .int .i64 sm, .int .i64 toh, .int .i64 top, .bool cyc, .int .i64 sn, .int .i64 old, .int .i64 cp, .int .i64 sr, vr], .bool false]) /\ zak w.heap.size w'.heap.size w' vw vr ws.length rs.length (za ws) y /\ Below w.heap.size w w' :=
 zem aw cw ws sm toh top cyc sn old cp sr ar cr rs (k : Int) sl (j : Int) sm toh top cyc sn old cp sr (za ws) y 1 false w rfl (fun W hW => ze9 aw cw ws sm toh top cyc sn old cp sr ar cr rs (k : Int) 0 0 0 (j : Int) 0 sl 0 none 0 0 ⟨#[]⟩ y w.heap.size W (hs.below hW) hcw hn hw (hrt.here.below hW (Nat.le_refl _)) hn2 hok (by rw [hW.cell (p := ⟨0, 0, none⟩) (World.block_lt_of_cell? _ ⟨0, 0, none⟩ hg)]; exact hg) (fun bw br vb ob cw' cr' ar' W v1 v2 o1 _ w1 r1 _ _ _ _ _ _ _ _ =>
  (zt7 bw cw' ws sm toh top cyc sn old cp sr ar' cr' rs br y vb ob #[.pointer (some ⟨ob, 0, none⟩), .int .i64 (k : Int), .int .i64 0, .int .i64 0, .int .i64 0, .int .i64 (j : Int), .int .i64 0, .int .i64 sl, .int .i64 0, .slice none 0 0, .string ⟨#[]⟩] W rfl v1 v2 o1 (World.block_lt_of_cell? _ ⟨ob, 0, none⟩ (o1 0)) hn2 r1 k j hk hj rfl rfl sl rfl hr0 h40 (fun W2 hW2 => by rw [hp]; exact zsa bw 0 cw' ws sm toh top cyc sn old cp sr ar' cr' rs P sl W2 (Nat.lt_of_lt_of_le w1.lt hW2.size) (fun i hi => by rw [Nat.zero_add, hW2.cell (p := ⟨bw, i, none⟩) w1.lt]; exact w1.cell hi) hn hw hP hrd hin)).mono fun e w' ⟨h1, h2⟩ => ⟨h1, Kp.of_below h2⟩))
theorem zl6 (aw : Option Addr) (cw : Nat) (ws : List Int) (sm toh top : Int) (cyc : Bool) (sn old cp sr : Int) (ar : Option Addr) (cr : Nat) (rs : List (Int × Int)) (k j P s : Nat) (T3 C3 m3 : Int) (ws3 : List Int) (y : Nat -> Int) (Tr : Nat) (w : World) (hs : Sl w (.slice aw ws.length cw) ws) (hcw : ws.length <= cw) (hn : ws.length <= 1048576) (hw : zg ws) (hrt : SlF Tr w (.slice ar rs.length cr) rs.length (2 * rs.length) (fun i => .int .i64 (y i))) (hn2 : rs.length <= 1048576) (hok : zbm ws sm toh top cyc sn old cp sr y rs.length) (hk : k < rs.length) (hj : j < rs.length) (hr0 : isR (y (2 * k)) = true) (h40 : y (2 * k) ≠ 4) (hp : y (2 * k + 1) = (P : Int)) (hP : P < ws.length) (hrd : zw (za ws P) = true) (hs3 : s < zat ws P) (hl3 : ws3.length = ws.length) (hli : zv2 ws sm toh top cyc sn old cp sr rs (zn ws P s) T3 C3 m3 ws3) :
 Calls Tryz.prog 14 #[.agg #[.slice aw ws.length cw, .int .i64 sm, .int .i64 toh, .int .i64 top, .bool cyc, .int .i64 sn, .int .i64 old, .int .i64 cp, .int .i64 sr, .slice ar rs.length cr], .int .i64 (k : Int), .int .i64 (s : Int), .int .i64 (j : Int)] w fun e w' => ∃ vw vr, e = .returned (.tuple #[.agg #[vw, .int .i64 sm, .int .i64 toh, .int .i64 T3, .bool cyc, .int .i64 sn, .int .i64 old, .int .i64 C3, .int .i64 sr, vr], .bool true]) /\ zak w.heap.size w'.heap.size w' vw vr ws.length rs.length (za ws3) (fun i => if i = 2 * j then rvT ws (zn ws P s) else if i = 2 * j + 1 then m3 else y i) /\ Below w.heap.size w w' :=
 zem aw cw ws sm toh top cyc sn old cp sr ar cr rs (k : Int) (s : Int) (j : Int) sm toh T3 cyc sn old C3 sr (za ws3) (fun i => if i = 2 * j then rvT ws (zn ws P s) else if i = 2 * j + 1 then m3 else y i) 0 true w rfl (fun W hW => zlj aw cw ws sm toh top cyc sn old cp sr ar cr rs (k : Int) 0 0 0 (j : Int) 0 (s : Int) 0 none 0 0 ⟨#[]⟩ sm toh T3 cyc sn old C3 sr ws3 (fun i => if i = 2 * j then rvT ws (zn ws P s) else if i = 2 * j + 1 then m3 else y i) y w.heap.size W (hs.below hW) hcw hn hw (hrt.here.below hW (Nat.le_refl _)) hn2 hok (fun bw br vb ob cw' cr' ar' W v1 v2 o1 row w1 r1 n1 n2 n3 n4 n5 n6 ne hcw' =>
  (zwp bw cw' ws sm toh top cyc sn old cp sr ar' cr' rs br y vb ob #[.pointer (some ⟨ob, 0, none⟩), .int .i64 (k : Int), .int .i64 0, .int .i64 0, .int .i64 0, .int .i64 (j : Int), .int .i64 0, .int .i64 (s : Int), .int .i64 0, .slice none 0 0, .string ⟨#[]⟩] W rfl v1 v2 o1 (World.block_lt_of_cell? _ ⟨ob, 0, none⟩ (o1 0)) hn2 r1 k j hk hj rfl rfl (s : Int) ((zn ws P s : Nat) : Int) (rvT ws (zn ws P s)) m3 T3 C3 ws3 rfl hr0 h40
    (fun W2 hW2 => by rw [hp]; exact zpo bw 0 cw' ws sm toh top cyc sn old cp sr ar' cr' rs P s W2 (Nat.lt_of_lt_of_le w1.lt hW2.size) (fun i hi => by rw [Nat.zero_add, hW2.cell (p := ⟨bw, i, none⟩) w1.lt]; exact w1.cell hi) hn hw hP hrd hs3)
    (fun W2 hW2 => hli ob bw cw' ar' cr' W2 (World.rowIs.of_block row (hW2.block _ row.lt)) (Rw.of_block w1 (hW2.block _ w1.lt)) n2 hcw') n1 n5 n3 (fun e => n4 e.symm) (fun e => ne (by omega) e.symm)).mono fun e w' ⟨h1, h2, h3, h4, h5⟩ => ⟨h1, h2, h3, .inr ⟨(by rcases r1 with h | h; exact absurd hj (by omega); exact h.1), h4⟩, h5.mono (fun x hx => by simp at hx; rcases hx with g | g | g <;> simp [g])⟩) hl3)
end Go.Proofs.YtdnhohndppmgcaaGreatDoor
