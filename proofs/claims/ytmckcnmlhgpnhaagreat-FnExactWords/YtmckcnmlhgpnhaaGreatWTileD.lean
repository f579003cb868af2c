/- - -/
import Derived.Test.YtmckcnmlhgpnhaaGreatWTileA
namespace Go.Proofs.YtmckcnmlhgpnhaaGreat
set_option maxRecDepth 20000
open Go.RowKit
set_option linter.unusedSimpArgs false
set_option linter.unusedVariables false
def zu (ws : List Int) (p : Nat) : Nat := (fwP (za ws p)).toNat
def zav (ws : List Int) (p : Nat) : Bool := !zai (za ws p) && zca (za ws p)
def nx2 (ws : List Int) (sr : Int) (U : List Nat) (p : Nat) : Option Nat :=
 if zai (za ws p) = true then (if rdN (za ws p) < sr then some (rdS (za ws p)).toNat else none)
 else if zca (za ws p) = true /\ zu ws p ∈ U then some (rdS (za ws (zu ws p))).toNat else none
def tgs (ws : List Int) (O : List Nat) : List Nat := (O.filter (zav ws)).map (zu ws)
def zak (ws : List Int) (O : List Nat) : Nat := ((O.filter (zav ws)).map (fun p => (rdS (za ws (zu ws p))).toNat + 1)).sum
theorem zgx {ws : List Int} {O : List Nat} {p : Nat} (h : zav ws p = true) : tgs ws (O ++ [p]) = tgs ws O ++ [zu ws p] := by simp [tgs, h]
theorem zhs {ws : List Int} {O : List Nat} {p : Nat} (h : zav ws p = false) : tgs ws (O ++ [p]) = tgs ws O := by simp [tgs, h]
theorem zkp {ws : List Int} {O : List Nat} {p : Nat} (h : zav ws p = true) : zak ws (O ++ [p]) = zak ws O + ((rdS (za ws (zu ws p))).toNat + 1) := by simp [zak, h]
theorem zkq {ws : List Int} {O : List Nat} {p : Nat} (h : zav ws p = false) : zak ws (O ++ [p]) = zak ws O := by simp [zak, h]
theorem zjb {ws : List Int} {sr : Int} {U : List Nat} {p s : Nat} (h : nx2 ws sr U p = some s) (hr : zai (za ws p) = true) : rdN (za ws p) < sr /\ (rdS (za ws p)).toNat = s := by
 unfold nx2 at h
 rw [if_pos hr] at h
 split at h
 · rename_i g; exact ⟨g, by simpa using h⟩
 · simp at h
theorem zfv {ws : List Int} {sr : Int} {U : List Nat} {p s : Nat} (h : nx2 ws sr U p = some s) (hr : zai (za ws p) = false) : zca (za ws p) = true /\ zu ws p ∈ U /\ (rdS (za ws (zu ws p))).toNat = s := by
 unfold nx2 at h
 rw [if_neg (by simp [hr])] at h
 split at h
 · rename_i g; exact ⟨g.1, g.2, by simpa using h⟩
 · simp at h
def mk2 (ws : List Int) (U O : List Nat) (i : Nat) : Int := if i ∈ O then (if zav ws i = true then 3 else 2) else if i ∈ U then 1 else 0
theorem zg7 (ws : List Int) (U O : List Nat) (p : Nat) (z : Int) (hz : z = if zav ws p = true then 3 else 2) : (fun j => if j = p then Value.int .i64 z else .int .i64 (mk2 ws U O j)) = fun j => .int .i64 (mk2 ws U (O ++ [p]) j) := by
 funext j
 by_cases e : j = p
 · subst e; simp [mk2, hz]
 · by_cases e2 : j ∈ O <;> simp [mk2, e, e2]
theorem zpu {ws : List Int} {U O : List Nat} (hd : ∀ p ∈ O, p ∉ U) {i : Nat} : (mk2 ws U O i == 1) = true ↔ i ∈ U := by
 unfold mk2
 by_cases h : i ∈ O
 · rw [if_pos h]
   have := hd i h
   by_cases h2 : zav ws i = true <;> simp [h2, this]
 · rw [if_neg h]
   by_cases h2 : i ∈ U <;> simp [h2]
structure zb3 (bm bl n : Nat) (w0 wr : World) (f g : Nat -> Value) : Prop where
 row : wr.rowIs bm 3 n f
 led : wr.rowIs bl 4 n g
 ge : w0.heap.size <= bl
 ne : bm < w0.heap.size
 apart : zz bm (bm + 1) w0 wr
theorem zb3.below {bm bl n : Nat} {w0 wr w1 : World} {f g : Nat -> Value} (h : zb3 bm bl n w0 wr f g) (hb : Below wr.heap.size wr w1) : zb3 bm bl n w0 w1 f g :=
 ⟨h.row.of_block (hb.block bm h.row.lt), h.led.of_block (hb.block bl h.led.lt), h.ge, h.ne, h.apart.next hb⟩
theorem zb3.alloc {bm bl n : Nat} {w0 wr : World} {f g : Nat -> Value} (h : zb3 bm bl n w0 wr f g) (o : Obj) : zb3 bm bl n w0 (wr.alloc o) f g := h.below ((Below.refl _ _).alloc (Nat.le_refl _) _)
theorem zb3.mark {bm bl n : Nat} {w0 wr : World} {f g : Nat -> Value} (h : zb3 bm bl n w0 wr f g) (P : Nat) (u : Value) : zb3 bm bl n w0 (wr.setCell ⟨bm, P, none⟩ u) (fun j => if j = P then u else f j) g :=
 ⟨h.row.set P u, h.led.setOther (a := ⟨bm, P, none⟩) (by have := h.ge; have := h.ne; simp; omega) u, h.ge, h.ne, h.apart.setCell (Nat.le_refl _) (by simp) _⟩
theorem zb3.lead {bm bl n : Nat} {w0 wr : World} {f g : Nat -> Value} (h : zb3 bm bl n w0 wr f g) (P : Nat) (u : Value) : zb3 bm bl n w0 (wr.setCell ⟨bl, P, none⟩ u) f (fun j => if j = P then u else g j) := by
 have h1 := h.ge
 have h2 := h.ne
 refine ⟨h.row.setOther (a := ⟨bl, P, none⟩) (by simp; omega) u, h.led.set P u, h.ge, h.ne, ?_⟩
 exact ⟨h.apart.os, h.apart.tape, h.apart.output, by simpa using h.apart.size, fun k hk hr => by rw [Go.Deep.blk_setCell_other _ _ _ _ (by simp; omega)]; exact h.apart.block k hk hr⟩
theorem zb3.own {bm bl n : Nat} {w0 wr : World} {f g : Nat -> Value} (h : zb3 bm bl n w0 wr f g) (c i : Nat) (u : Value) (hc : w0.heap.size <= c) (hne : c ≠ bl) : zb3 bm bl n w0 (wr.setCell ⟨c, i, none⟩ u) f g := by
 have h2 := h.ne
 refine ⟨h.row.setOther (a := ⟨c, i, none⟩) (by simp; omega) u, h.led.setOther (a := ⟨c, i, none⟩) (by simp; omega) u, h.ge, h.ne, ?_⟩
 exact ⟨h.apart.os, h.apart.tape, h.apart.output, by simpa using h.apart.size, fun k hk hr => by rw [Go.Deep.blk_setCell_other _ _ _ _ (by simp; omega)]; exact h.apart.block k hk hr⟩
theorem zqm : (Tryz.prog.info? 4).map (fun i => (i.zero, i.size, i.bytes)) = some (some (.bool false), 1, 1) := by kernel_rfl
theorem zfd {ws : List Int} {sr : Int} {U : List Nat} {F P : Nat} {O : List Nat} (h : zn (nx2 ws sr U) F P O) : zak ws O + F <= P := by
 refine zn.ind (motive := fun F O => zak ws O + F <= P) (by simp [zak]) (fun {p s L} h t ih => ?_) h
 have e : zak ws (p :: L) = zak ws [p] + zak ws L := by
  by_cases hf : zav ws p = true <;> simp [zak, hf]
 have e1 : zak ws [p] <= s + 1 := by
  by_cases hf : zav ws p = true
  · have hr : zai (za ws p) = false := by
     simp only [zav, Bool.and_eq_true, Bool.not_eq_true'] at hf; exact hf.1
    have := (zfv h hr).2.2
    simp [zak, hf]; omega
  · simp [zak, hf]
 omega
set_option maxHeartbeats 4000000 in
theorem zok (b off : Nat) (cw : Nat) (ws : List Int) (smz toh top : Int) (sn old cpz sr : Int) (ar : Option Addr) (cr : Nat) (rs : List (Int × Int)) (bm cm : Nat) (w : World) (hn : ws.length <= 1048576) (hw : zg ws) (hb' : b < w.heap.size) (hbm' : b ≠ bm) (hc : ∀ i, i < ws.length -> w.cell? ⟨b, off + i, none⟩ = some (.int .u64 (za ws i)))
 (hs : Sl w (.slice (some ⟨b, off, none⟩) ws.length cw) ws) (hrow : w.rowIs bm 3 ws.length (fun _ => .int .i64 0)) (s0 : 256 <= smz) (s1 : smz <= 4000) (t0 : 0 <= toh) (t1 : toh <= 1) (S T F Od : Nat) (hS : toh * smz + 1 = S) (hT : top = T) (hST : S <= T) (hTn : T <= ws.length) (L : List Nat) (hL : zn (nx1 ws sr) S T L)
 (hF : (1 - toh) * smz + 1 = F) (hOd : old = Od) (hFO : F <= Od) (hOn : Od <= ws.length) (O : List Nat) (hO : zn (nx2 ws sr L) F Od O) (hnd : (tgs ws O).Nodup) (hdis : ∀ p ∈ O, p ∉ L) :
 Calls Tryz.prog 91 #[.agg #[.slice (some ⟨b, off, none⟩) ws.length cw, .int .i64 smz, .int .i64 toh, .int .i64 top, .bool true, .int .i64 sn, .int .i64 old, .int .i64 cpz, .int .i64 sr, .slice ar rs.length cr], .slice (some ⟨bm, 0, none⟩) ws.length cm] w fun e w' => ∃ q, e = .returned (.bool q) /\ (q = true ↔ (zak ws O : Int) = cpz /\ (sn = top \/ 0 <= sn /\ sn < ws.length /\ sn.toNat ∈ L)) /\ w'.rowIs bm 3 ws.length (fun i => .int .i64 (mk2 ws L O i)) /\ zz bm (bm + 1) w w' := by
 have HS : Hid (toh * smz + 1 = (S : Int)) := hS
 have HF : Hid ((1 - toh) * smz + 1 = (F : Int)) := hF
 have u0 : 0 <= 1 - toh := by omega
 have u1 : 1 - toh <= 1 := by omega
 have lbm := hrow.lt
 have hn' : (ws.length : Int) <= 1048576 := by omega
 have hT1 : (T : Int) <= (ws.length : Int) := by omega
 have hO1 : (Od : Int) <= (ws.length : Int) := by omega
 have hmk := fun (w : World) => run_make_row' (P := Tryz.prog) 75 4 (.bool false) 1 Tryz.underlying75 zqm rfl .i64 .i64 ws.length (by omega) (by omega) w
 have hints : ∀ i : Nat, ∃ z, (fun _ => Value.int .i64 0 : Nat -> Value) i = .int .i64 z := fun _ => ⟨0, rfl⟩
 subst hT hOd
 clear hS hF
 go_enter Tryz.func91, Tryz.ntmps91
 go_wp2_with fail
 refine (zco _ _ _ _ _ _ _ _ _ _ _ _ _ _ _ _ _ t0 t1 s0 s1 HS.out).mono ?_
 rintro e w1 ⟨rfl, b1⟩
 have T0 : zd8 bm ws.length (w.alloc (.cells #[.slice (some ⟨b, off, none⟩) ws.length cw, .int .i64 smz, .int .i64 toh, .int .i64 (T : Int), .bool true, .int .i64 sn, .int .i64 (Od : Int), .int .i64 cpz, .int .i64 sr, .slice ar rs.length cr] 30)) w1 (fun _ => .int .i64 0) := ⟨(hrow.alloc _).of_block (b1.block bm (by simp; omega)), hints, zaf b1 (Nat.le_refl _) _ _⟩
 clear b1
 go_wp2
 go_loopw [5] (fun u5 wr => ∃ (P : Nat) (L1 L2 : List Nat), u5 = .int .i64 P /\ L = L1 ++ L2 /\ zn (nx1 ws sr) P T L2 /\ zd8 bm ws.length (w.alloc (.cells #[.slice (some ⟨b, off, none⟩) ws.length cw, .int .i64 smz, .int .i64 toh, .int .i64 (T : Int), .bool true, .int .i64 sn, .int .i64 (Od : Int), .int .i64 cpz, .int .i64 sr, .slice ar rs.length cr] 30)) wr (fun i => if i ∈ L1 then .int .i64 1 else .int .i64 0)) (fun u5 _ => T - (intOf u5).toNat)
 case atStart => exact ⟨S, [], L, rfl, rfl, hL, by simpa using T0⟩
 case round =>
  obtain ⟨P, L1, L2, rfl, hLL, hCh, hR⟩ := hrel
  clear T0
  have K := zcu hR.apart (by omega)
  have lw := hR.apart.size
  cases L2 with
  | nil =>
    obtain rfl : T = P := hCh
    obtain rfl : L = L1 := by simpa using hLL
    clear hLL hints
    have T1 : zb3 bm wr.heap.size ws.length (w.alloc (.cells #[.slice (some ⟨b, off, none⟩) ws.length cw, .int .i64 smz, .int .i64 toh, .int .i64 (T : Int), .bool true, .int .i64 sn, .int .i64 (Od : Int), .int .i64 cpz, .int .i64 sr, .slice ar rs.length cr] 30)) (wr.alloc (.cells (madeCells #[.bool false] ws.length) 4)) (fun i => .int .i64 (mk2 ws L [] i)) (fun i => .bool (decide (i ∈ tgs ws []))) :=
     ⟨(hR.row.alloc _).congr (fun i _ => by by_cases e : i ∈ L <;> simp [mk2, e]), (World.rowIs_made wr (.bool false) ws.length 4).congr (fun i _ => by simp [tgs]), hR.apart.size, by simp; omega, hR.apart.alloc _⟩
    have hx0 : SlX bm (w.alloc (.cells #[.slice (some ⟨b, off, none⟩) ws.length cw, .int .i64 smz, .int .i64 toh, .int .i64 (T : Int), .bool true, .int .i64 sn, .int .i64 (Od : Int), .int .i64 cpz, .int .i64 sr, .slice ar rs.length cr] 30)) (.slice (some ⟨b, off, none⟩) ws.length cw) ws := ⟨_, _, rfl, .inr ⟨b, off, rfl, hbm', by simp; omega, fun i hi => by rw [World.cell?_alloc_lt w _ ⟨b, off + i, none⟩ hb']; exact hc i hi⟩⟩
    have lwr : w.heap.size < wr.heap.size := by simp at lw; omega
    have hLT : ∀ x ∈ L, x < T := fun x hx => (hL.mem x hx).2.1
    clear hR hL
    go_wp2_with fail
    refine (zco _ _ _ _ _ _ _ _ _ _ _ _ _ _ _ _ _ u0 u1 s0 s1 HF.out).mono ?_
    rintro e w2 ⟨rfl, b2⟩
    have T2 := T1.below b2
    clear T1 K b2 lw hmk
    revert T2 lwr
    generalize wr.heap.size = bl
    intro lwr T2
    go_wp2
    go_loopw [9, 10] (fun u9 u10 wq => ∃ (P : Nat) (O1 O2 : List Nat), u10 = .int .i64 P /\ u9 = .int .i64 (zak ws O1) /\ O = O1 ++ O2 /\ zn (nx2 ws sr L) P Od O2 /\ zn (nx2 ws sr L) F P O1 /\ zb3 bm bl ws.length (w.alloc (.cells #[.slice (some ⟨b, off, none⟩) ws.length cw, .int .i64 smz, .int .i64 toh, .int .i64 (T : Int), .bool true, .int .i64 sn, .int .i64 (Od : Int), .int .i64 cpz, .int .i64 sr, .slice ar rs.length cr] 30)) wq (fun i => .int .i64 (mk2 ws L O1 i)) (fun i => .bool (decide (i ∈ tgs ws O1)))) (fun _ u10 _ => Od - (intOf u10).toNat)
    case atStart => exact ⟨F, [], O, rfl, rfl, rfl, hO, .nil _, T2⟩
    case round =>
     obtain ⟨P, O1, O2, rfl, rfl, hOO, hCh, hC1, hR⟩ := hrel
     clear T2 hO
     have lw := hR.apart.size
     have K := zcu hR.apart (by omega)
     have hsum := zfd hC1
     cases O2 with
     | nil =>
       obtain rfl : Od = P := hCh
       obtain rfl : O = O1 := by simpa using hOO
       clear hOO
       have hr := hR.row
       have ha := hR.apart.first
       have hsm : (zak ws O : Int) <= 1048576 := by omega
       by_cases c1 : (zak ws O : Int) = cpz
       · have c1' : ((zak ws O : Int) == cpz) = true := by simpa using c1
         by_cases c2 : sn = (T : Int)
         · have c2' : (sn == (T : Int)) = true := by simpa using c2
           clear c1 c2 hR
           go_wp2
           go_ret
           exact ⟨_, rfl, ⟨fun _ => ⟨by simpa using c1', .inl (by simpa using c2')⟩, fun _ => rfl⟩, hr, ha⟩
         · have c2' : (sn == (T : Int)) = false := by simpa using c2
           by_cases c3 : 0 <= sn /\ sn < (ws.length : Int)
           · obtain ⟨Sc, rfl⟩ := Int.eq_ofNat_of_zero_le c3.1
             have hSc : Sc < ws.length := by omega
             have hSc' : (Sc : Int) < (ws.length : Int) := by omega
             have c3' : inB (Sc : Int) 0 ((ws.length : Int) - 1) = true := by unfold inB; apply decide_eq_true; omega
             have m1 := hr.cell (i := Sc) hSc
             have hfin : (mk2 ws L O Sc == 1) = true ↔ (zak ws O : Int) = cpz /\ ((Sc : Int) = (T : Int) \/ 0 <= (Sc : Int) /\ (Sc : Int) < (ws.length : Int) /\ (Sc : Int).toNat ∈ L) := by
              rw [zpu hdis]
              exact ⟨fun g => ⟨c1, .inr ⟨by omega, hSc', by simpa using g⟩⟩, fun g => by rcases g.2 with g | g; exact absurd g c2; simpa using g.2.2⟩
             have HF2 : Hid ((mk2 ws L O Sc == 1) = true ↔ (zak ws O : Int) = cpz /\ ((Sc : Int) = (T : Int) \/ 0 <= (Sc : Int) /\ (Sc : Int) < (ws.length : Int) /\ (Sc : Int).toNat ∈ L)) := hfin
             clear hfin c1 c2 hR c3
             go_wp2_with (go_at_call 104; refine (zw _ _ _ _).mono ?_; rintro e w' ⟨rfl, rfl⟩)
             go_ret
             exact ⟨_, rfl, HF2.out, hr, ha⟩
           · have c3' : inB sn 0 ((ws.length : Int) - 1) = false := by unfold inB; apply decide_eq_false; omega
             have hfin : ¬ ((zak ws O : Int) = cpz /\ (sn = (T : Int) \/ 0 <= sn /\ sn < (ws.length : Int) /\ sn.toNat ∈ L)) := fun g => by rcases g.2 with g | g; exact c2 g; exact c3 ⟨g.1, g.2.1⟩
             have HF2 : Hid (¬ ((zak ws O : Int) = cpz /\ (sn = (T : Int) \/ 0 <= sn /\ sn < (ws.length : Int) /\ sn.toNat ∈ L))) := hfin
             clear hfin c1 c2 hR c3
             go_wp2_with (go_at_call 104; refine (zw _ _ _ _).mono ?_; rintro e w' ⟨rfl, rfl⟩)
             go_ret
             exact ⟨_, rfl, ⟨fun g => by simp at g, fun g => absurd g HF2.out⟩, hr, ha⟩
       · have c1' : ((zak ws O : Int) == cpz) = false := by simpa using c1
         clear hR
         go_wp2
         go_ret
         exact ⟨_, rfl, ⟨fun g => by simp at g, fun g => absurd g.1 c1⟩, hr, ha⟩
     | cons y O2 =>
       obtain ⟨rfl, s, hs2, hle, hCh2⟩ := hCh.lt_of_cons
       rename_i P
       have hyO : y ∈ O := by rw [hOO]; simp
       have hOO2 : O = (O1 ++ [y]) ++ O2 := by rw [hOO]; simp
       have hC2 := hC1.snoc hs2
       have hPT' : (y : Int) < (Od : Int) := by omega
       have hPne : ((y : Int) != (Od : Int)) = true := by simp; omega
       have hxA := hx0.apart hR.apart
       have q : wr.cell? ⟨b, off + y, none⟩ = some (.int .u64 (za ws y)) := by
        rw [World.cell?_of_block (w := (w.alloc (.cells #[.slice (some ⟨b, off, none⟩) ws.length cw, .int .i64 smz, .int .i64 toh, .int .i64 (T : Int), .bool true, .int .i64 sn, .int .i64 (Od : Int), .int .i64 cpz, .int .i64 sr, .slice ar rs.length cr] 30))) (hR.apart.block b (by simp; omega) (by omega))]
        rw [World.cell?_alloc_lt w _ ⟨b, off + y, none⟩ hb']; exact hc y (by omega)
       have hx := zac hw y
       have hP0 : (y : Int) < (ws.length : Int) := by omega
       have hsm : (zak ws O1 : Int) <= 1048576 := by omega
       by_cases hok : zai (za ws y) = true
       · obtain ⟨hser, hsz⟩ := zjb hs2 hok
         have hfw : zav ws y = false := by simp [zav, hok]
         have hsb := za5 (za ws y)
         have hgt : ¬ (Od : Int) < (y : Int) + rdS (za ws y) + 1 := by omega
         have hser' : ¬ sr <= rdN (za ws y) := by omega
         go_wp2_with fail
         refine (zbg _ _ hx.1 hx.2).mono ?_
         rintro e w3 ⟨rfl, b3⟩
         have K2 := ze K b3 (by simp at lw; omega)
         have l2 : w.heap.size < w3.heap.size := by simp at lw; have := b3.size; omega
         have hR3 := fun o => (hR.below b3).alloc o
         have m1 : ∀ o, (w3.alloc o).cell? ⟨bm, y, none⟩ = some (.int .i64 (mk2 ws L O1 y)) := fun o => (hR3 o).row.cell (by omega)
         have m2 : ∀ o, (w3.alloc o).frozen? ⟨bm, y, none⟩ = false := fun o => (hR3 o).row.frozen y
         have hne : bm ≠ w3.heap.size := by omega
         have hst : ∀ o, zb3 bm bl ws.length (w.alloc (.cells #[.slice (some ⟨b, off, none⟩) ws.length cw, .int .i64 smz, .int .i64 toh, .int .i64 (T : Int), .bool true, .int .i64 sn, .int .i64 (Od : Int), .int .i64 cpz, .int .i64 sr, .slice ar rs.length cr] 30)) ((w3.alloc o).setCell ⟨bm, y, none⟩ (.int .i64 2)) (fun i => .int .i64 (mk2 ws L (O1 ++ [y]) i)) (fun i => .bool (decide (i ∈ tgs ws (O1 ++ [y])))) := fun o => by
          have := (hR3 o).mark y (.int .i64 2)
          rw [zg7 ws L O1 y 2 (by simp [hfw])] at this
          rw [zhs hfw]
          exact this
         have hS2 : Hid (zak ws (O1 ++ [y]) = zak ws O1) := zkq hfw
         have HPn : Hid (((y + s + 1 : Nat) : Int) = (y : Int) + rdS (za ws y) + 1) := by show ((y + s + 1 : Nat) : Int) = (y : Int) + rdS (za ws y) + 1; omega
         clear K q hR hR3 hOO hs2 hsz b3 hxA
         go_wp2
         go_roundw
         case rel => exact ⟨y + s + 1, O1 ++ [y], O2, by rw [HPn.out], by rw [hS2.out], hOO2, hCh2, hC2, hst _⟩
         case measure => simp only [intOf]; have := HPn.out; omega
       · rw [Bool.not_eq_true] at hok
         obtain ⟨hfo, hQU, hsz⟩ := zfv hs2 hok
         have hfw : zav ws y = true := by simp [zav, hok, hfo]
         have hQT := hLT _ hQU
         have hp0 : 0 <= fwP (za ws y) := by unfold fwP; rw [if_pos hfo]; simp only [zca, decide_eq_true_eq] at hfo; omega
         have hq3 : (fwP (za ws y)).toNat = zu ws y := rfl
         have hp1 : fwP (za ws y) < (ws.length : Int) := by omega
         have hQw : zu ws y < ws.length := by omega
         have HQ : Hid (fwP (za ws y) = (zu ws y : Int)) := by show fwP (za ws y) = (zu ws y : Int); omega
         have hsb := za5 (za ws (zu ws y))
         have hgt : ¬ (Od : Int) < (y : Int) + rdS (za ws (zu ws y)) + 1 := by omega
         have hO1 : zu ws y ∉ O1 := fun h => hdis _ (by rw [hOO]; exact List.mem_append_left _ h) hQU
         have hmk1 : mk2 ws L O1 (zu ws y) = 1 := by simp [mk2, hO1, hQU]
         have hnt : zu ws y ∉ tgs ws O1 := fun h => by
          rw [hOO2] at hnd
          have : tgs ws (O1 ++ [y] ++ O2) = tgs ws O1 ++ [zu ws y] ++ tgs ws O2 := by
           simp [tgs, hfw]
          rw [this, List.append_assoc, List.nodup_append] at hnd
          exact hnd.2.2 _ h _ (by simp) rfl
         go_wp2_with fail
         refine (zbg _ _ hx.1 hx.2).mono ?_
         rintro e w3 ⟨rfl, b3⟩
         have K2 := ze K b3 (by simp at lw; omega)
         have q2 : ∀ o, (w3.alloc o).cell? ⟨b, off + y, none⟩ = some (.int .u64 (za ws y)) := fun o => by
          rw [World.cell?_alloc_lt w3 _ ⟨b, off + y, none⟩ (show b < w3.heap.size by simp at lw; have := b3.size; omega), b3.cell (p := ⟨b, off + y, none⟩) (show b < wr.heap.size by simp at lw; omega)]; exact q
         have l2 : w.heap.size < w3.heap.size := by simp at lw; have := b3.size; omega
         have hR3 := fun o => (hR.below b3).alloc o
         have lbl : bl < w3.heap.size := (hR.below b3).led.lt
         have n1 : ∀ o, (w3.alloc o).cell? ⟨bm, zu ws y, none⟩ = some (.int .i64 1) := fun o => by rw [(hR3 o).row.cell (by omega), hmk1]
         have n2 : ∀ o, (w3.alloc o).cell? ⟨bl, zu ws y, none⟩ = some (.bool false) := fun o => by rw [(hR3 o).led.cell (by omega)]; simp [hnt]
         have n3 : ∀ o, (w3.alloc o).frozen? ⟨bl, zu ws y, none⟩ = false := fun o => (hR3 o).led.frozen _
         have T4 := fun o => ((hR.below b3).lead (zu ws y) (.bool true)).alloc o
         have KW := fun o => zcu (T4 o).apart (by omega)
         have hSW := fun o => (hx0.apart (T4 o).apart).sl
         have hH : ∀ A i, ((w3.setCell ⟨bl, zu ws y, none⟩ (.bool true)).alloc (.cells A 78)).cell? ⟨w3.heap.size, i, none⟩ = A[i]? := fun A i => by simp [go_sem]
         have hHf : ∀ A i, ((w3.setCell ⟨bl, zu ws y, none⟩ (.bool true)).alloc (.cells A 78)).frozen? ⟨w3.heap.size, i, none⟩ = false := fun A i => by simp [go_sem]
         have hHz : ∀ o, w3.heap.size < ((w3.setCell ⟨bl, zu ws y, none⟩ (.bool true)).alloc o).heap.size := fun o => by simp
         have hne1 : bl ≠ w.heap.size := by omega
         clear K q hR hxA b3
         go_wp2_with (go_at_call 100; refine (zbp _ _ hx.1 hx.2).mono ?_; rintro e w' ⟨rfl, rfl⟩)
         refine (zbr _ _ _ _ _ _ _ _ _ _ _ _ _ _ _ (zu ws y) _ HQ.out (hSW _) hn hw hQw).mono ?_
         rintro e w5 ⟨rfl, b5⟩
         have T5 := (T4 _).below b5
         have K5 := zcu T5.apart (by omega)
         have h5 := ze (hH _) b5 (hHz _)
         have g5 : ∀ i, w5.frozen? ⟨w3.heap.size, i, none⟩ = false := fun i => by rw [b5.frozen (p := ⟨w3.heap.size, i, none⟩) (hHz _)]; exact hHf _ i
         have m1 := T5.row.cell (i := y) (by omega)
         have m2 := T5.row.frozen y
         have hne : bm ≠ w3.heap.size := by omega
         have hne2 : w.heap.size ≠ w3.heap.size := by omega
         have hge : (w.alloc (.cells #[.slice (some ⟨b, off, none⟩) ws.length cw, .int .i64 smz, .int .i64 toh, .int .i64 (T : Int), .bool true, .int .i64 sn, .int .i64 (Od : Int), .int .i64 cpz, .int .i64 sr, .slice ar rs.length cr] 30)).heap.size <= w3.heap.size := by simp; omega
         have hne3 : w3.heap.size ≠ bl := by omega
         have hst : ∀ u1 u2 u3, zb3 bm bl ws.length (w.alloc (.cells #[.slice (some ⟨b, off, none⟩) ws.length cw, .int .i64 smz, .int .i64 toh, .int .i64 (T : Int), .bool true, .int .i64 sn, .int .i64 (Od : Int), .int .i64 cpz, .int .i64 sr, .slice ar rs.length cr] 30)) ((((w5.setCell ⟨w3.heap.size, 0, none⟩ u1).setCell ⟨w3.heap.size, 1, none⟩ u2).setCell ⟨w3.heap.size, 2, none⟩ u3).setCell ⟨bm, y, none⟩ (.int .i64 3)) (fun i => .int .i64 (mk2 ws L (O1 ++ [y]) i)) (fun i => .bool (decide (i ∈ tgs ws (O1 ++ [y])))) := fun u1 u2 u3 => by
          have := (((T5.own w3.heap.size 0 u1 hge hne3).own w3.heap.size 1 u2 hge hne3).own w3.heap.size 2 u3 hge hne3).mark y (.int .i64 3)
          rw [zg7 ws L O1 y 3 (by simp [hfw])] at this
          have e : (fun j => if j = zu ws y then Value.bool true else .bool (decide (j ∈ tgs ws O1))) = fun i => .bool (decide (i ∈ tgs ws (O1 ++ [y]))) := by
           funext j
           rw [zgx hfw]
           by_cases e1 : j = zu ws y <;> simp [e1]
          rw [<- e]; exact this
         have hS2 : Hid (((zak ws (O1 ++ [y]) : Nat) : Int) = (zak ws O1 : Int) + rdS (za ws (zu ws y)) + 1) := by
          show ((zak ws (O1 ++ [y]) : Nat) : Int) = (zak ws O1 : Int) + rdS (za ws (zu ws y)) + 1
          rw [zkp hfw]; omega
         have HPn : Hid (((y + s + 1 : Nat) : Int) = (y : Int) + rdS (za ws (zu ws y)) + 1) := by show ((y + s + 1 : Nat) : Int) = (y : Int) + rdS (za ws (zu ws y)) + 1; omega
         clear T5 T4 KW hSW hH hHf hR3 n1 n2 n3 q2 K2 hOO hs2 hsz b5 hnt hmk1 hO1
         go_wp2
         go_roundw
         case rel => exact ⟨y + s + 1, O1 ++ [y], O2, by rw [HPn.out], by rw [hS2.out], hOO2, hCh2, hC2, hst _ _ _⟩
         case measure => simp only [intOf]; have := HPn.out; omega
  | cons y L2 =>
    obtain ⟨rfl, s, hs, hle, hCh2⟩ := hCh.lt_of_cons
    obtain ⟨hok, hser, hsz⟩ := zdo hs
    rename_i P
    have hPT' : (y : Int) < (T : Int) := by omega
    have hPne : ((y : Int) != (T : Int)) = true := by simp; omega
    have q : wr.cell? ⟨b, off + y, none⟩ = some (.int .u64 (za ws y)) := by
     rw [World.cell?_of_block (w := (w.alloc (.cells #[.slice (some ⟨b, off, none⟩) ws.length cw, .int .i64 smz, .int .i64 toh, .int .i64 (T : Int), .bool true, .int .i64 sn, .int .i64 (Od : Int), .int .i64 cpz, .int .i64 sr, .slice ar rs.length cr] 30))) (hR.apart.block b (by simp; omega) (by omega))]
     rw [World.cell?_alloc_lt w _ ⟨b, off + y, none⟩ hb']; exact hc y (by omega)
    have hx := zac hw y
    have hP0 : (y : Int) < (ws.length : Int) := by omega
    have hsb := za5 (za ws y)
    have hgt : ¬ (T : Int) < (y : Int) + rdS (za ws y) + 1 := by omega
    have hser' : ¬ sr <= rdN (za ws y) := by omega
    go_wp2_with fail
    refine (zbg _ _ hx.1 hx.2).mono ?_
    rintro e w2 ⟨rfl, b2⟩
    have K2 := ze K b2 (by simp at lw; omega)
    have l2 : w.heap.size < w2.heap.size := by simp at lw; have := b2.size; omega
    obtain ⟨zf, hzf⟩ := hR.ints y
    have hr2 := hR.row.of_block (b2.block bm hR.row.lt)
    have m1 : ∀ o, (w2.alloc o).cell? ⟨bm, y, none⟩ = some (.int .i64 zf) := fun o => by rw [(hr2.alloc o).cell (by omega), hzf]
    have m2 : ∀ o, (w2.alloc o).frozen? ⟨bm, y, none⟩ = false := fun o => (hr2.alloc o).frozen y
    have hne : bm ≠ w2.heap.size := by have := hr2.lt; omega
    have hst := fun o => zg8 (hR.step (o := o) b2 y 1)
    have HPn : Hid (((y + s + 1 : Nat) : Int) = (y : Int) + rdS (za ws y) + 1) := by show ((y + s + 1 : Nat) : Int) = (y : Int) + rdS (za ws y) + 1; omega
    have hLL2 : L = (L1 ++ [y]) ++ L2 := by rw [hLL]; simp
    clear K q hr2 hzf hR hLL hs hsz
    go_wp2
    go_roundw
    case rel => exact ⟨y + s + 1, L1 ++ [y], L2, by rw [HPn.out], hLL2, hCh2, hst _⟩
    case measure => simp only [intOf]; have := HPn.out; omega
set_option maxHeartbeats 4000000 in
theorem zql (b off : Nat) (cw : Nat) (ws : List Int) (smz toh top : Int) (sn old cpz sr : Int) (ar : Option Addr) (cr : Nat) (rs : List (Int × Int)) (bm cm : Nat) (w : World) (hn : ws.length <= 1048576) (hw : zg ws) (hb' : b < w.heap.size) (hbm' : b ≠ bm) (hc : ∀ i, i < ws.length -> w.cell? ⟨b, off + i, none⟩ = some (.int .u64 (za ws i)))
 (hs : Sl w (.slice (some ⟨b, off, none⟩) ws.length cw) ws) (hrow : w.rowIs bm 3 ws.length (fun _ => .int .i64 0)) (s0 : 256 <= smz) (s1 : smz <= 4000) (t0 : 0 <= toh) (t1 : toh <= 1) (S T F Od : Nat) (hS : toh * smz + 1 = S) (hT : top = T) (hST : S <= T) (hTn : T <= ws.length) (L : List Nat) (hL : zn (nx1 ws sr) S T L)
 (hF : (1 - toh) * smz + 1 = F) (hOd : old = Od) (hFO : F <= Od) (hOn : Od <= ws.length) (hno : ¬ ∃ O, zn (nx2 ws sr L) F Od O /\ (tgs ws O).Nodup) (hdis : ∀ p, F <= p -> p < Od -> p ∉ L) :
 Calls Tryz.prog 91 #[.agg #[.slice (some ⟨b, off, none⟩) ws.length cw, .int .i64 smz, .int .i64 toh, .int .i64 top, .bool true, .int .i64 sn, .int .i64 old, .int .i64 cpz, .int .i64 sr, .slice ar rs.length cr], .slice (some ⟨bm, 0, none⟩) ws.length cm] w fun e w' => e = .returned (.bool false) /\ zz bm (bm + 1) w w' := by
 have HS : Hid (toh * smz + 1 = (S : Int)) := hS
 have HF : Hid ((1 - toh) * smz + 1 = (F : Int)) := hF
 have u0 : 0 <= 1 - toh := by omega
 have u1 : 1 - toh <= 1 := by omega
 have lbm := hrow.lt
 have hn' : (ws.length : Int) <= 1048576 := by omega
 have hT1 : (T : Int) <= (ws.length : Int) := by omega
 have hO1 : (Od : Int) <= (ws.length : Int) := by omega
 have hmk := fun (w : World) => run_make_row' (P := Tryz.prog) 75 4 (.bool false) 1 Tryz.underlying75 zqm rfl .i64 .i64 ws.length (by omega) (by omega) w
 have hints : ∀ i : Nat, ∃ z, (fun _ => Value.int .i64 0 : Nat -> Value) i = .int .i64 z := fun _ => ⟨0, rfl⟩
 subst hT hOd
 clear hS hF
 go_enter Tryz.func91, Tryz.ntmps91
 go_wp2_with fail
 refine (zco _ _ _ _ _ _ _ _ _ _ _ _ _ _ _ _ _ t0 t1 s0 s1 HS.out).mono ?_
 rintro e w1 ⟨rfl, b1⟩
 have T0 : zd8 bm ws.length (w.alloc (.cells #[.slice (some ⟨b, off, none⟩) ws.length cw, .int .i64 smz, .int .i64 toh, .int .i64 (T : Int), .bool true, .int .i64 sn, .int .i64 (Od : Int), .int .i64 cpz, .int .i64 sr, .slice ar rs.length cr] 30)) w1 (fun _ => .int .i64 0) := ⟨(hrow.alloc _).of_block (b1.block bm (by simp; omega)), hints, zaf b1 (Nat.le_refl _) _ _⟩
 clear b1
 go_wp2
 go_loopw [5] (fun u5 wr => ∃ (P : Nat) (L1 L2 : List Nat), u5 = .int .i64 P /\ L = L1 ++ L2 /\ zn (nx1 ws sr) P T L2 /\ zd8 bm ws.length (w.alloc (.cells #[.slice (some ⟨b, off, none⟩) ws.length cw, .int .i64 smz, .int .i64 toh, .int .i64 (T : Int), .bool true, .int .i64 sn, .int .i64 (Od : Int), .int .i64 cpz, .int .i64 sr, .slice ar rs.length cr] 30)) wr (fun i => if i ∈ L1 then .int .i64 1 else .int .i64 0)) (fun u5 _ => T - (intOf u5).toNat)
 case atStart => exact ⟨S, [], L, rfl, rfl, hL, by simpa using T0⟩
 case round =>
  obtain ⟨P, L1, L2, rfl, hLL, hCh, hR⟩ := hrel
  clear T0
  have K := zcu hR.apart (by omega)
  have lw := hR.apart.size
  cases L2 with
  | nil =>
    obtain rfl : T = P := hCh
    obtain rfl : L = L1 := by simpa using hLL
    clear hLL hints
    have T1 : zb3 bm wr.heap.size ws.length (w.alloc (.cells #[.slice (some ⟨b, off, none⟩) ws.length cw, .int .i64 smz, .int .i64 toh, .int .i64 (T : Int), .bool true, .int .i64 sn, .int .i64 (Od : Int), .int .i64 cpz, .int .i64 sr, .slice ar rs.length cr] 30)) (wr.alloc (.cells (madeCells #[.bool false] ws.length) 4)) (fun i => .int .i64 (mk2 ws L [] i)) (fun i => .bool (decide (i ∈ tgs ws []))) :=
     ⟨(hR.row.alloc _).congr (fun i _ => by by_cases e : i ∈ L <;> simp [mk2, e]), (World.rowIs_made wr (.bool false) ws.length 4).congr (fun i _ => by simp [tgs]), hR.apart.size, by simp; omega, hR.apart.alloc _⟩
    have hx0 : SlX bm (w.alloc (.cells #[.slice (some ⟨b, off, none⟩) ws.length cw, .int .i64 smz, .int .i64 toh, .int .i64 (T : Int), .bool true, .int .i64 sn, .int .i64 (Od : Int), .int .i64 cpz, .int .i64 sr, .slice ar rs.length cr] 30)) (.slice (some ⟨b, off, none⟩) ws.length cw) ws := ⟨_, _, rfl, .inr ⟨b, off, rfl, hbm', by simp; omega, fun i hi => by rw [World.cell?_alloc_lt w _ ⟨b, off + i, none⟩ hb']; exact hc i hi⟩⟩
    have lwr : w.heap.size < wr.heap.size := by simp at lw; omega
    have hLT : ∀ x ∈ L, x < T := fun x hx => (hL.mem x hx).2.1
    clear hR hL
    go_wp2_with fail
    refine (zco _ _ _ _ _ _ _ _ _ _ _ _ _ _ _ _ _ u0 u1 s0 s1 HF.out).mono ?_
    rintro e w2 ⟨rfl, b2⟩
    have T2 := T1.below b2
    clear T1 K b2 lw hmk
    revert T2 lwr
    generalize wr.heap.size = bl
    intro lwr T2
    go_wp2
    go_loopw [9, 10] (fun u9 u10 wq => ∃ (P : Nat) (O1 : List Nat), u10 = .int .i64 P /\ u9 = .int .i64 (zak ws O1) /\ P <= Od /\ (¬ ∃ O2, zn (nx2 ws sr L) P Od O2 /\ (tgs ws (O1 ++ O2)).Nodup) /\ (tgs ws O1).Nodup /\ zn (nx2 ws sr L) F P O1 /\ zb3 bm bl ws.length (w.alloc (.cells #[.slice (some ⟨b, off, none⟩) ws.length cw, .int .i64 smz, .int .i64 toh, .int .i64 (T : Int), .bool true, .int .i64 sn, .int .i64 (Od : Int), .int .i64 cpz, .int .i64 sr, .slice ar rs.length cr] 30)) wq (fun i => .int .i64 (mk2 ws L O1 i)) (fun i => .bool (decide (i ∈ tgs ws O1)))) (fun _ u10 _ => Od - (intOf u10).toNat)
    case atStart => exact ⟨F, [], rfl, rfl, hFO, hno, by simp [tgs], .nil _, T2⟩
    case round =>
     obtain ⟨y, O1, rfl, rfl, hyO, hnoP, hnd, hC1, hR⟩ := hrel
     clear T2 hno
     have lw := hR.apart.size
     have K := zcu hR.apart (by omega)
     have hsum := zfd hC1
     have hyT : y < Od := by
      rcases Nat.lt_or_ge y Od with h | h
      · exact h
      · have : y = Od := by omega
        subst this
        exact absurd ⟨[], zn.nil _, by simpa using hnd⟩ hnoP
     have hdO : ∀ p ∈ O1, p ∉ L := fun p hp => hdis p (hC1.mem p hp).1 (by have := (hC1.mem p hp).2.1; omega)
     have hPT' : (y : Int) < (Od : Int) := by omega
     have hPne : ((y : Int) != (Od : Int)) = true := by simp; omega
     have q : wr.cell? ⟨b, off + y, none⟩ = some (.int .u64 (za ws y)) := by
      rw [World.cell?_of_block (w := (w.alloc (.cells #[.slice (some ⟨b, off, none⟩) ws.length cw, .int .i64 smz, .int .i64 toh, .int .i64 (T : Int), .bool true, .int .i64 sn, .int .i64 (Od : Int), .int .i64 cpz, .int .i64 sr, .slice ar rs.length cr] 30))) (hR.apart.block b (by simp; omega) (by omega))]
      rw [World.cell?_alloc_lt w _ ⟨b, off + y, none⟩ hb']; exact hc y (by omega)
     have hx := zac hw y
     have hP0 : (y : Int) < (ws.length : Int) := by omega
     have hsm : (zak ws O1 : Int) <= 1048576 := by omega
     by_cases hok : zai (za ws y) = true
     · have hfw : zav ws y = false := by simp [zav, hok]
       have hsb := za5 (za ws y)
       go_wp2_with fail
       refine (zbg _ _ hx.1 hx.2).mono ?_
       rintro e w3 ⟨rfl, b3⟩
       have K2 := ze K b3 (by simp at lw; omega)
       have l2 : w.heap.size < w3.heap.size := by simp at lw; have := b3.size; omega
       have hR3 := fun o => (hR.below b3).alloc o
       have hA := fun o => (hR3 o).apart.first
       clear K q b3
       by_cases hser : sr <= rdN (za ws y)
       · go_wp2
         go_ret
         exact ⟨rfl, hA _⟩
       by_cases hgt : (Od : Int) < (y : Int) + rdS (za ws y) + 1
       · go_wp2
         go_ret
         exact ⟨rfl, hA _⟩
       have hs2 : nx2 ws sr L y = some (rdS (za ws y)).toNat := by unfold nx2; rw [if_pos hok, if_pos (by omega)]
       have m1 : ∀ o, (w3.alloc o).cell? ⟨bm, y, none⟩ = some (.int .i64 (mk2 ws L O1 y)) := fun o => (hR3 o).row.cell (by omega)
       have m2 : ∀ o, (w3.alloc o).frozen? ⟨bm, y, none⟩ = false := fun o => (hR3 o).row.frozen y
       have hne : bm ≠ w3.heap.size := by omega
       have hst : ∀ o, zb3 bm bl ws.length (w.alloc (.cells #[.slice (some ⟨b, off, none⟩) ws.length cw, .int .i64 smz, .int .i64 toh, .int .i64 (T : Int), .bool true, .int .i64 sn, .int .i64 (Od : Int), .int .i64 cpz, .int .i64 sr, .slice ar rs.length cr] 30)) ((w3.alloc o).setCell ⟨bm, y, none⟩ (.int .i64 2)) (fun i => .int .i64 (mk2 ws L (O1 ++ [y]) i)) (fun i => .bool (decide (i ∈ tgs ws (O1 ++ [y])))) := fun o => by
        have := (hR3 o).mark y (.int .i64 2)
        rw [zg7 ws L O1 y 2 (by simp [hfw])] at this
        rw [zhs hfw]
        exact this
       have hS2 : Hid (zak ws (O1 ++ [y]) = zak ws O1) := zkq hfw
       have hnd2 : (tgs ws (O1 ++ [y])).Nodup := by rw [zhs hfw]; exact hnd
       have hno2 : ¬ ∃ O2, zn (nx2 ws sr L) (y + (rdS (za ws y)).toNat + 1) Od O2 /\ (tgs ws ((O1 ++ [y]) ++ O2)).Nodup := fun ⟨O2, g1, g2⟩ => hnoP ⟨y :: O2, .cons hs2 g1, by simpa using g2⟩
       have hC2 := hC1.snoc hs2
       have hle : y + (rdS (za ws y)).toNat + 1 <= Od := by omega
       have HPn : Hid (((y + (rdS (za ws y)).toNat + 1 : Nat) : Int) = (y : Int) + rdS (za ws y) + 1) := by show ((y + (rdS (za ws y)).toNat + 1 : Nat) : Int) = (y : Int) + rdS (za ws y) + 1; omega
       clear hR hR3 hs2 hA hnoP
       go_wp2
       go_roundw
       case rel => exact ⟨y + (rdS (za ws y)).toNat + 1, O1 ++ [y], by rw [HPn.out], by rw [hS2.out], hle, hno2, hnd2, hC2, hst _⟩
       case measure => simp only [intOf]; have := HPn.out; omega
     · rw [Bool.not_eq_true] at hok
       go_wp2_with fail
       refine (zbg _ _ hx.1 hx.2).mono ?_
       rintro e w3 ⟨rfl, b3⟩
       have K2 := ze K b3 (by simp at lw; omega)
       have q2 : ∀ o, (w3.alloc o).cell? ⟨b, off + y, none⟩ = some (.int .u64 (za ws y)) := fun o => by
        rw [World.cell?_alloc_lt w3 _ ⟨b, off + y, none⟩ (show b < w3.heap.size by simp at lw; have := b3.size; omega), b3.cell (p := ⟨b, off + y, none⟩) (show b < wr.heap.size by simp at lw; omega)]; exact q
       have l2 : w.heap.size < w3.heap.size := by simp at lw; have := b3.size; omega
       have hR3 := fun o => (hR.below b3).alloc o
       have lbl : bl < w3.heap.size := (hR.below b3).led.lt
       have hA := fun o => (hR3 o).apart.first
       clear K q
       by_cases hfo : zca (za ws y) = true
       · have hp0 : 0 <= fwP (za ws y) := by unfold fwP; rw [if_pos hfo]; simp only [zca, decide_eq_true_eq] at hfo; omega
         have hq3 : (fwP (za ws y)).toNat = zu ws y := rfl
         by_cases hp1 : (ws.length : Int) <= fwP (za ws y)
         · go_wp2_with (go_at_call 100; refine (zbp _ _ hx.1 hx.2).mono ?_; rintro e w' ⟨rfl, rfl⟩)
           go_ret
           exact ⟨rfl, hA _⟩
         have hp2 : fwP (za ws y) < (ws.length : Int) := by omega
         have hQw : zu ws y < ws.length := by omega
         have n1 : ∀ o, (w3.alloc o).cell? ⟨bm, zu ws y, none⟩ = some (.int .i64 (mk2 ws L O1 (zu ws y))) := fun o => (hR3 o).row.cell (by omega)
         by_cases hQ1 : mk2 ws L O1 (zu ws y) = 1
         · have hQU : zu ws y ∈ L := (zpu hdO).1 (by simpa using hQ1)
           have hQT := hLT _ hQU
           have hQ2 : (mk2 ws L O1 (zu ws y) != 1) = false := by simpa using hQ1
           have hfw : zav ws y = true := by simp [zav, hok, hfo]
           have n2 : ∀ o, (w3.alloc o).cell? ⟨bl, zu ws y, none⟩ = some (.bool (decide (zu ws y ∈ tgs ws O1))) := fun o => (hR3 o).led.cell (by omega)
           by_cases hnt : zu ws y ∈ tgs ws O1
           · have hd1 : decide (zu ws y ∈ tgs ws O1) = true := decide_eq_true hnt
             rw [hd1] at n2
             rw [hQ1] at n1
             clear hd1 hnt hQ1 hQ2
             go_wp2_with (go_at_call 100; refine (zbp _ _ hx.1 hx.2).mono ?_; rintro e w' ⟨rfl, rfl⟩)
             go_ret
             exact ⟨rfl, hA _⟩
           have hd1 : decide (zu ws y ∈ tgs ws O1) = false := decide_eq_false hnt
           rw [hd1] at n2
           rw [hQ1] at n1
           have HQ : Hid (fwP (za ws y) = (zu ws y : Int)) := by show fwP (za ws y) = (zu ws y : Int); omega
           have hsb := za5 (za ws (zu ws y))
           have n3 : ∀ o, (w3.alloc o).frozen? ⟨bl, zu ws y, none⟩ = false := fun o => (hR3 o).led.frozen _
           have T4 := fun o => ((hR.below b3).lead (zu ws y) (.bool true)).alloc o
           have KW := fun o => zcu (T4 o).apart (by omega)
           have hSW := fun o => (hx0.apart (T4 o).apart).sl
           have hH : ∀ A i, ((w3.setCell ⟨bl, zu ws y, none⟩ (.bool true)).alloc (.cells A 78)).cell? ⟨w3.heap.size, i, none⟩ = A[i]? := fun A i => by simp [go_sem]
           have hHf : ∀ A i, ((w3.setCell ⟨bl, zu ws y, none⟩ (.bool true)).alloc (.cells A 78)).frozen? ⟨w3.heap.size, i, none⟩ = false := fun A i => by simp [go_sem]
           have hHz : ∀ o, w3.heap.size < ((w3.setCell ⟨bl, zu ws y, none⟩ (.bool true)).alloc o).heap.size := fun o => by simp
           have hne1 : bl ≠ w.heap.size := by omega
           clear hd1 hQ1 hQ2 hA b3 hR
           go_wp2_with (go_at_call 100; refine (zbp _ _ hx.1 hx.2).mono ?_; rintro e w' ⟨rfl, rfl⟩)
           refine (zbr _ _ _ _ _ _ _ _ _ _ _ _ _ _ _ (zu ws y) _ HQ.out (hSW _) hn hw hQw).mono ?_
           rintro e w5 ⟨rfl, b5⟩
           have T5 := (T4 _).below b5
           have K5 := zcu T5.apart (by omega)
           have h5 := ze (hH _) b5 (hHz _)
           have g5 : ∀ i, w5.frozen? ⟨w3.heap.size, i, none⟩ = false := fun i => by rw [b5.frozen (p := ⟨w3.heap.size, i, none⟩) (hHz _)]; exact hHf _ i
           have m1 := T5.row.cell (i := y) (by omega)
           have m2 := T5.row.frozen y
           have hne : bm ≠ w3.heap.size := by omega
           have hne2 : w.heap.size ≠ w3.heap.size := by omega
           have hge : (w.alloc (.cells #[.slice (some ⟨b, off, none⟩) ws.length cw, .int .i64 smz, .int .i64 toh, .int .i64 (T : Int), .bool true, .int .i64 sn, .int .i64 (Od : Int), .int .i64 cpz, .int .i64 sr, .slice ar rs.length cr] 30)).heap.size <= w3.heap.size := by simp; omega
           have hne3 : w3.heap.size ≠ bl := by omega
           have hT6 := fun u1 u2 u3 => ((T5.own w3.heap.size 0 u1 hge hne3).own w3.heap.size 1 u2 hge hne3).own w3.heap.size 2 u3 hge hne3
           by_cases hgt : (Od : Int) < (y : Int) + rdS (za ws (zu ws y)) + 1
           · have hA6 := fun u1 u2 u3 => (hT6 u1 u2 u3).apart.first
             clear T5 T4 KW hSW hH hHf hR3 n1 n2 n3 q2 K2 b5 hnt hT6
             go_wp2
             go_ret
             exact ⟨rfl, hA6 _ _ _⟩
           have hst : ∀ u1 u2 u3, zb3 bm bl ws.length (w.alloc (.cells #[.slice (some ⟨b, off, none⟩) ws.length cw, .int .i64 smz, .int .i64 toh, .int .i64 (T : Int), .bool true, .int .i64 sn, .int .i64 (Od : Int), .int .i64 cpz, .int .i64 sr, .slice ar rs.length cr] 30)) ((((w5.setCell ⟨w3.heap.size, 0, none⟩ u1).setCell ⟨w3.heap.size, 1, none⟩ u2).setCell ⟨w3.heap.size, 2, none⟩ u3).setCell ⟨bm, y, none⟩ (.int .i64 3)) (fun i => .int .i64 (mk2 ws L (O1 ++ [y]) i)) (fun i => .bool (decide (i ∈ tgs ws (O1 ++ [y])))) := fun u1 u2 u3 => by
            have := (hT6 u1 u2 u3).mark y (.int .i64 3)
            rw [zg7 ws L O1 y 3 (by simp [hfw])] at this
            have e : (fun j => if j = zu ws y then Value.bool true else .bool (decide (j ∈ tgs ws O1))) = fun i => .bool (decide (i ∈ tgs ws (O1 ++ [y]))) := by
             funext j
             rw [zgx hfw]
             by_cases e1 : j = zu ws y <;> simp [e1]
            rw [<- e]; exact this
           have hs2 : nx2 ws sr L y = some (rdS (za ws (zu ws y))).toNat := by unfold nx2; rw [if_neg (by simp [hok]), if_pos ⟨hfo, hQU⟩]
           have hS2 : Hid (((zak ws (O1 ++ [y]) : Nat) : Int) = (zak ws O1 : Int) + rdS (za ws (zu ws y)) + 1) := by
            show ((zak ws (O1 ++ [y]) : Nat) : Int) = (zak ws O1 : Int) + rdS (za ws (zu ws y)) + 1
            rw [zkp hfw]; omega
           have hnd2 : (tgs ws (O1 ++ [y])).Nodup := by
            rw [zgx hfw, List.nodup_append]
            exact ⟨hnd, by simp, fun a ha c hc => by simp at hc; subst hc; intro e; subst e; exact hnt ha⟩
           have hno2 : ¬ ∃ O2, zn (nx2 ws sr L) (y + (rdS (za ws (zu ws y))).toNat + 1) Od O2 /\ (tgs ws ((O1 ++ [y]) ++ O2)).Nodup := fun ⟨O2, g1, g2⟩ => hnoP ⟨y :: O2, .cons hs2 g1, by simpa using g2⟩
           have hC2 := hC1.snoc hs2
           have hle : y + (rdS (za ws (zu ws y))).toNat + 1 <= Od := by omega
           have HPn : Hid (((y + (rdS (za ws (zu ws y))).toNat + 1 : Nat) : Int) = (y : Int) + rdS (za ws (zu ws y)) + 1) := by show ((y + (rdS (za ws (zu ws y))).toNat + 1 : Nat) : Int) = (y : Int) + rdS (za ws (zu ws y)) + 1; omega
           clear T5 T4 KW hSW hH hHf hR3 n1 n2 n3 q2 K2 hs2 b5 hnt hT6 hnoP
           go_wp2
           go_roundw
           case rel => exact ⟨y + (rdS (za ws (zu ws y))).toNat + 1, O1 ++ [y], by rw [HPn.out], by rw [hS2.out], hle, hno2, hnd2, hC2, hst _ _ _⟩
           case measure => simp only [intOf]; have := HPn.out; omega
         · have hQ2 : (mk2 ws L O1 (zu ws y) != 1) = true := by simpa using hQ1
           go_wp2_with (go_at_call 100; refine (zbp _ _ hx.1 hx.2).mono ?_; rintro e w' ⟨rfl, rfl⟩)
           go_ret
           exact ⟨rfl, hA _⟩
       · rw [Bool.not_eq_true] at hfo
         go_wp2_with (go_at_call 100; refine (zbp _ _ hx.1 hx.2).mono ?_; rintro e w' ⟨rfl, rfl⟩)
         go_ret
         exact ⟨rfl, hA _⟩
  | cons y L2 =>
    obtain ⟨rfl, s, hs, hle, hCh2⟩ := hCh.lt_of_cons
    obtain ⟨hok, hser, hsz⟩ := zdo hs
    rename_i P
    have hPT' : (y : Int) < (T : Int) := by omega
    have hPne : ((y : Int) != (T : Int)) = true := by simp; omega
    have q : wr.cell? ⟨b, off + y, none⟩ = some (.int .u64 (za ws y)) := by
     rw [World.cell?_of_block (w := (w.alloc (.cells #[.slice (some ⟨b, off, none⟩) ws.length cw, .int .i64 smz, .int .i64 toh, .int .i64 (T : Int), .bool true, .int .i64 sn, .int .i64 (Od : Int), .int .i64 cpz, .int .i64 sr, .slice ar rs.length cr] 30))) (hR.apart.block b (by simp; omega) (by omega))]
     rw [World.cell?_alloc_lt w _ ⟨b, off + y, none⟩ hb']; exact hc y (by omega)
    have hx := zac hw y
    have hP0 : (y : Int) < (ws.length : Int) := by omega
    have hsb := za5 (za ws y)
    have hgt : ¬ (T : Int) < (y : Int) + rdS (za ws y) + 1 := by omega
    have hser' : ¬ sr <= rdN (za ws y) := by omega
    go_wp2_with fail
    refine (zbg _ _ hx.1 hx.2).mono ?_
    rintro e w2 ⟨rfl, b2⟩
    have K2 := ze K b2 (by simp at lw; omega)
    have l2 : w.heap.size < w2.heap.size := by simp at lw; have := b2.size; omega
    obtain ⟨zf, hzf⟩ := hR.ints y
    have hr2 := hR.row.of_block (b2.block bm hR.row.lt)
    have m1 : ∀ o, (w2.alloc o).cell? ⟨bm, y, none⟩ = some (.int .i64 zf) := fun o => by rw [(hr2.alloc o).cell (by omega), hzf]
    have m2 : ∀ o, (w2.alloc o).frozen? ⟨bm, y, none⟩ = false := fun o => (hr2.alloc o).frozen y
    have hne : bm ≠ w2.heap.size := by have := hr2.lt; omega
    have hst := fun o => zg8 (hR.step (o := o) b2 y 1)
    have HPn : Hid (((y + s + 1 : Nat) : Int) = (y : Int) + rdS (za ws y) + 1) := by show ((y + s + 1 : Nat) : Int) = (y : Int) + rdS (za ws y) + 1; omega
    have hLL2 : L = (L1 ++ [y]) ++ L2 := by rw [hLL]; simp
    clear K q hr2 hzf hR hLL hs hsz
    go_wp2
    go_roundw
    case rel => exact ⟨y + s + 1, L1 ++ [y], L2, by rw [HPn.out], hLL2, hCh2, hst _⟩
    case measure => simp only [intOf]; have := HPn.out; omega
structure za1 (ws : List Int) (sr : Int) (S T : Nat) (cyc : Bool) (F : Nat) (old cpz sn : Int) (L O : List Nat) : Prop where
 use : zn (nx1 ws sr) S T L
 still : cyc = false -> O = []
 runs : cyc = true -> zn (nx2 ws sr L) F old.toNat O /\ (tgs ws O).Nodup /\ (zak ws O : Int) = cpz /\ (sn = T \/ 0 <= sn /\ sn < ws.length /\ sn.toNat ∈ L)
theorem zsz (b off : Nat) (cw : Nat) (ws : List Int) (smz toh top : Int) (cyc : Bool) (sn old cpz sr : Int) (ar : Option Addr) (cr : Nat) (rs : List (Int × Int)) (bm cm : Nat) (w : World) (hn : ws.length <= 1048576) (hw : zg ws) (hb' : b < w.heap.size) (hbm' : b ≠ bm) (hc : ∀ i, i < ws.length -> w.cell? ⟨b, off + i, none⟩ = some (.int .u64 (za ws i)))
 (hrow : w.rowIs bm 3 ws.length (fun _ => .int .i64 0)) (s0 : 256 <= smz) (s1 : smz <= 4000) (t0 : 0 <= toh) (t1 : toh <= 1) (S T F : Nat) (hS : toh * smz + 1 = S) (hT : top = T) (hST : S <= T) (hTn : T <= ws.length)
 (hF : (1 - toh) * smz + 1 = F) (hold : cyc = true -> (F : Int) <= old /\ old <= ws.length /\ (T <= F \/ old <= S)) :
 Calls Tryz.prog 91 #[.agg #[.slice (some ⟨b, off, none⟩) ws.length cw, .int .i64 smz, .int .i64 toh, .int .i64 top, .bool cyc, .int .i64 sn, .int .i64 old, .int .i64 cpz, .int .i64 sr, .slice ar rs.length cr], .slice (some ⟨bm, 0, none⟩) ws.length cm] w fun e w' => ∃ q, e = .returned (.bool q) /\
  ((q = true /\ ∃ L O, za1 ws sr S T cyc F old cpz sn L O /\ w'.rowIs bm 3 ws.length (fun i => .int .i64 (mk2 ws L O i))) \/ (q = false /\ ¬ ∃ L O, za1 ws sr S T cyc F old cpz sn L O)) /\ zz bm (bm + 1) w w' := by
 have hs : Sl w (.slice (some ⟨b, off, none⟩) ws.length cw) ws := ⟨_, _, rfl, .inr ⟨b, off, rfl, hb', hc⟩⟩
 by_cases hL : ∃ L, zn (nx1 ws sr) S T L
 · obtain ⟨L, hL⟩ := hL
   have huniq : ∀ L', zn (nx1 ws sr) S T L' -> L' = L := fun L' h => h.unique hL
   cases cyc with
   | false =>
     have := zqn b off cw ws smz toh top sn old cpz sr ar cr rs bm cm w hn hw hb' hbm' hc (fun _ => .int .i64 0) hrow (fun _ => ⟨0, rfl⟩) s0 s1 t0 t1 S T hS hT hST hTn L hL
     refine this.mono ?_
     rintro e w' ⟨he, hr, ha⟩
     refine ⟨true, he, .inl ⟨rfl, L, [], ⟨hL, fun _ => rfl, fun h => by simp at h⟩, hr.congr fun i _ => ?_⟩, ha⟩
     by_cases e : i ∈ L <;> simp [mk2, e]
   | true =>
     obtain ⟨h1, h2, h3⟩ := hold rfl
     obtain ⟨Od, rfl⟩ := Int.eq_ofNat_of_zero_le (a := old) (by omega)
     have hdis : ∀ p, F <= p -> p < Od -> p ∉ L := fun p hp1 hp2 hpL => by
      have := hL.mem p hpL
      omega
     by_cases hO : ∃ O, zn (nx2 ws sr L) F Od O /\ (tgs ws O).Nodup
     · obtain ⟨O, hO, hnd⟩ := hO
       have hdO : ∀ p ∈ O, p ∉ L := fun p hp => hdis p (hO.mem p hp).1 (hO.mem p hp).2.1
       have := zok b off cw ws smz toh top sn (Od : Int) cpz sr ar cr rs bm cm w hn hw hb' hbm' hc hs hrow s0 s1 t0 t1 S T F Od hS hT hST hTn L hL hF rfl (by omega) (by omega) O hO hnd hdO
       refine this.mono ?_
       rintro e w' ⟨q, he, hq, hr, ha⟩
       refine ⟨q, he, ?_, ha⟩
       cases q with
       | true =>
         have g := hq.1 rfl
         refine .inl ⟨rfl, L, O, ⟨hL, fun h => by simp at h, fun _ => ⟨by simpa using hO, hnd, g.1, ?_⟩⟩, hr⟩
         rw [<- hT]; exact g.2
       | false =>
         refine .inr ⟨rfl, fun ⟨L', O', t⟩ => ?_⟩
         obtain rfl := huniq L' t.use
         obtain ⟨g1, g2, g3, g4⟩ := t.runs rfl
         obtain rfl : O' = O := by
          have g1' : zn (nx2 ws sr L') F Od O' := by simpa using g1
          exact g1'.unique hO
         have := hq.2 ⟨g3, by rw [hT]; exact g4⟩
         simp at this
     · have := zql b off cw ws smz toh top sn (Od : Int) cpz sr ar cr rs bm cm w hn hw hb' hbm' hc hs hrow s0 s1 t0 t1 S T F Od hS hT hST hTn L hL hF rfl (by omega) (by omega) hO hdis
       refine this.mono ?_
       rintro e w' ⟨he, ha⟩
       refine ⟨false, he, .inr ⟨rfl, fun ⟨L', O', t⟩ => ?_⟩, ha⟩
       obtain rfl := huniq L' t.use
       obtain ⟨g1, g2, _⟩ := t.runs rfl
       exact hO ⟨O', by simpa using g1, g2⟩
 · have := zol b off cw ws smz toh top cyc sn old cpz sr ar cr rs bm cm w hn hw hb' hbm' hc (fun _ => .int .i64 0) hrow (fun _ => ⟨0, rfl⟩) s0 s1 t0 t1 S T hS hT hST hTn hL
   refine this.mono ?_
   rintro e w' ⟨he, ha⟩
   exact ⟨false, he, .inr ⟨rfl, fun ⟨L', O', t⟩ => hL ⟨L', t.use⟩⟩, ha⟩
end Go.Proofs.YtmckcnmlhgpnhaaGreat
