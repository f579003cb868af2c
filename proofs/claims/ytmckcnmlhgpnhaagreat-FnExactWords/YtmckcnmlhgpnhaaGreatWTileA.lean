/- - -/
import Derived.Test.YtmckcnmlhgpnhaaGreatWChainA
import Derived.Test.YtmckcnmlhgpnhaaGreatWArnA
namespace Go.Proofs.YtmckcnmlhgpnhaaGreat
set_option maxRecDepth 20000
open Go.RowKit
set_option linter.unusedSimpArgs false
set_option linter.unusedVariables false
theorem zz.setCell {B T : Nat} {a w : World} (h : zz B T a w) {p : Addr} (h1 : B <= p.block) (h2 : p.block < T) (u : Value) : zz B T a (w.setCell p u) :=
 ⟨h.os, h.tape, h.output, by simpa using h.size, fun k hk hr => by rw [Go.Deep.blk_setCell_other _ _ _ _ (by omega)]; exact h.block k hk hr⟩
theorem zz.next {B T : Nat} {a w w' : World} (h : zz B T a w) (hb : Below w.heap.size w w') : zz B T a w' := h.trans (zaf hb (Nat.le_refl _) B T)
theorem zz.alloc {B T : Nat} {a w : World} (h : zz B T a w) (o : Obj) : zz B T a (w.alloc o) := h.next ((Below.refl _ _).alloc (Nat.le_refl _) _)
theorem zz.first {B T : Nat} {w w' : World} {o : Obj} (h : zz B T (w.alloc o) w') : zz B T w w' := (zaf ((Below.refl _ _).alloc (Nat.le_refl _) _) (Nat.le_refl _) B T).trans h
structure zd8 (bm n : Nat) (w0 wr : World) (f : Nat -> Value) : Prop where
 row : wr.rowIs bm 3 n f
 ints : ∀ i, ∃ z, f i = .int .i64 z
 apart : zz bm (bm + 1) w0 wr
theorem zd8.step {bm n : Nat} {w0 wr w1 : World} {f : Nat -> Value} {o : Obj} (h : zd8 bm n w0 wr f) (hb : Below wr.heap.size wr w1) (P : Nat) (z : Int) : zd8 bm n w0 ((w1.alloc o).setCell ⟨bm, P, none⟩ (.int .i64 z)) (fun j => if j = P then .int .i64 z else f j) :=
 ⟨((h.row.of_block (hb.block bm h.row.lt)).alloc o).set P _, fun i => by by_cases e : i = P <;> simp [e, h.ints i], ((h.apart.next hb).alloc o).setCell (Nat.le_refl _) (by simp) _⟩
set_option maxHeartbeats 1000000 in
theorem zol (b off : Nat) (cw : Nat) (ws : List Int) (smz toh top : Int) (cyc : Bool) (sn old cpz sr : Int) (ar : Option Addr) (cr : Nat) (rs : List (Int × Int)) (bm cm : Nat) (w : World) (hn : ws.length <= 1048576) (hw : zg ws) (hb' : b < w.heap.size) (hbm' : b ≠ bm) (hc : ∀ i, i < ws.length -> w.cell? ⟨b, off + i, none⟩ = some (.int .u64 (za ws i)))
 (f0 : Nat -> Value) (hrow : w.rowIs bm 3 ws.length f0) (hints : ∀ i, ∃ z, f0 i = .int .i64 z) (s0 : 256 <= smz) (s1 : smz <= 4000) (t0 : 0 <= toh) (t1 : toh <= 1) (S T : Nat) (hS : toh * smz + 1 = S) (hT : top = T) (hST : S <= T) (hTn : T <= ws.length) (hno : ¬ ∃ L, zn (nx1 ws sr) S T L) :
 Calls Tryz.prog 91 #[.agg #[.slice (some ⟨b, off, none⟩) ws.length cw, .int .i64 smz, .int .i64 toh, .int .i64 top, .bool cyc, .int .i64 sn, .int .i64 old, .int .i64 cpz, .int .i64 sr, .slice ar rs.length cr], .slice (some ⟨bm, 0, none⟩) ws.length cm] w fun e w' => e = .returned (.bool false) /\ zz bm (bm + 1) w w' := by
 have HS : Hid (toh * smz + 1 = (S : Int)) := hS
 have lbm := hrow.lt
 have hn' : (ws.length : Int) <= 1048576 := by omega
 have hT1 : (T : Int) <= (ws.length : Int) := by omega
 subst hT
 clear hS
 go_enter Tryz.func91, Tryz.ntmps91
 go_wp2_with fail
 refine (zco _ _ _ _ _ _ _ _ _ _ _ _ _ _ _ _ _ t0 t1 s0 s1 HS.out).mono ?_
 rintro e w1 ⟨rfl, b1⟩
 have T0 : zd8 bm ws.length (w.alloc (.cells #[.slice (some ⟨b, off, none⟩) ws.length cw, .int .i64 smz, .int .i64 toh, .int .i64 (T : Int), .bool cyc, .int .i64 sn, .int .i64 old, .int .i64 cpz, .int .i64 sr, .slice ar rs.length cr] 30)) w1 f0 := ⟨(hrow.alloc _).of_block (b1.block bm (by simp; omega)), hints, zaf b1 (Nat.le_refl _) _ _⟩
 clear b1
 go_wp2
 go_loopw [5] (fun u5 wr => ∃ (P : Nat) (f : Nat -> Value), u5 = .int .i64 P /\ P <= T /\ (¬ ∃ L, zn (nx1 ws sr) P T L) /\ zd8 bm ws.length (w.alloc (.cells #[.slice (some ⟨b, off, none⟩) ws.length cw, .int .i64 smz, .int .i64 toh, .int .i64 (T : Int), .bool cyc, .int .i64 sn, .int .i64 old, .int .i64 cpz, .int .i64 sr, .slice ar rs.length cr] 30)) wr f) (fun u5 _ => T - (intOf u5).toNat)
 case atStart => exact ⟨S, f0, rfl, hST, hno, T0⟩
 case round =>
  obtain ⟨P, f, rfl, hP, hnoP, hR⟩ := hrel
  clear T0
  have hPT : P < T := by
   rcases Nat.lt_or_ge P T with h | h
   · exact h
   · have : P = T := by omega
     subst this
     exact absurd ⟨[], zn.nil _⟩ hnoP
  have hPT' : (P : Int) < (T : Int) := by omega
  have hPne : ((P : Int) != (T : Int)) = true := by simp; omega
  have K := zcu hR.apart (by omega)
  have lw := hR.apart.size
  have q : wr.cell? ⟨b, off + P, none⟩ = some (.int .u64 (za ws P)) := by
   rw [World.cell?_of_block (w := (w.alloc (.cells #[.slice (some ⟨b, off, none⟩) ws.length cw, .int .i64 smz, .int .i64 toh, .int .i64 (T : Int), .bool cyc, .int .i64 sn, .int .i64 old, .int .i64 cpz, .int .i64 sr, .slice ar rs.length cr] 30))) (hR.apart.block b (by simp; omega) (by omega))]
   rw [World.cell?_alloc_lt w _ ⟨b, off + P, none⟩ hb']; exact hc P (by omega)
  have hx := zac hw P
  have hP0 : (P : Int) < (ws.length : Int) := by omega
  go_wp2_with fail
  refine (zbg _ _ hx.1 hx.2).mono ?_
  rintro e w2 ⟨rfl, b2⟩
  have K2 := ze K b2 (by simp at lw; omega)
  have hA : ∀ o, zz bm (bm + 1) w (w2.alloc o) := fun o => ((hR.apart.next b2).alloc o).first
  have l2 : w.heap.size < w2.heap.size := by simp at lw; have := b2.size; omega
  have hsb := za5 (za ws P)
  clear K q
  by_cases hok : zai (za ws P) = true
  · by_cases hgt : (T : Int) < (P : Int) + rdS (za ws P) + 1
    · go_wp2
      go_ret
      exact ⟨rfl, hA _⟩
    · by_cases hser : sr <= rdN (za ws P)
      · go_wp2
        go_ret
        exact ⟨rfl, hA _⟩
      · have hnx : nx1 ws sr P = some (rdS (za ws P)).toNat := by unfold nx1; rw [if_pos ⟨hok, by omega⟩]
        obtain ⟨zf, hzf⟩ := hR.ints P
        have hr2 := hR.row.of_block (b2.block bm hR.row.lt)
        have m1 : ∀ o, (w2.alloc o).cell? ⟨bm, P, none⟩ = some (.int .i64 zf) := fun o => by rw [(hr2.alloc o).cell (by omega), hzf]
        have m2 : ∀ o, (w2.alloc o).frozen? ⟨bm, P, none⟩ = false := fun o => (hr2.alloc o).frozen P
        have hne : bm ≠ w2.heap.size := by have := hr2.lt; omega
        have hst := fun o => hR.step (o := o) b2 P 1
        have hno2 := zn.none_from hnoP hnx
        have hPn : ((P + (rdS (za ws P)).toNat + 1 : Nat) : Int) = (P : Int) + rdS (za ws P) + 1 := by omega
        have hle : P + (rdS (za ws P)).toNat + 1 <= T := by omega
        have hmes : T - (P + (rdS (za ws P)).toNat + 1) < T - P := by omega
        have HPn : Hid (((P + (rdS (za ws P)).toNat + 1 : Nat) : Int) = (P : Int) + rdS (za ws P) + 1) := hPn
        clear hPn hr2 hA hzf
        go_wp2
        go_roundw
        case rel => exact ⟨P + (rdS (za ws P)).toNat + 1, _, by rw [HPn.out], hle, hno2, hst _⟩
        case measure => simp only [intOf]; have := HPn.out; omega
  · rw [Bool.not_eq_true] at hok
    go_wp2
    go_ret
    exact ⟨rfl, hA _⟩
theorem zg8 {bm n : Nat} {w0 wr : World} {L1 : List Nat} {y : Nat} {f0 : Nat -> Value} (h : zd8 bm n w0 wr (fun j => if j = y then .int .i64 1 else if j ∈ L1 then .int .i64 1 else f0 j)) : zd8 bm n w0 wr (fun j => if j ∈ L1 ++ [y] then .int .i64 1 else f0 j) := by
 have e : (fun j => if j = y then Value.int .i64 1 else if j ∈ L1 then .int .i64 1 else f0 j) = (fun j => if j ∈ L1 ++ [y] then .int .i64 1 else f0 j) := by
  funext j
  by_cases e1 : j = y
  · simp [e1]
  · by_cases e2 : j ∈ L1 <;> simp [e1, e2]
 rw [<- e]; exact h
set_option maxHeartbeats 1000000 in
theorem zqn (b off : Nat) (cw : Nat) (ws : List Int) (smz toh top : Int) (sn old cpz sr : Int) (ar : Option Addr) (cr : Nat) (rs : List (Int × Int)) (bm cm : Nat) (w : World) (hn : ws.length <= 1048576) (hw : zg ws) (hb' : b < w.heap.size) (hbm' : b ≠ bm) (hc : ∀ i, i < ws.length -> w.cell? ⟨b, off + i, none⟩ = some (.int .u64 (za ws i)))
 (f0 : Nat -> Value) (hrow : w.rowIs bm 3 ws.length f0) (hints : ∀ i, ∃ z, f0 i = .int .i64 z) (s0 : 256 <= smz) (s1 : smz <= 4000) (t0 : 0 <= toh) (t1 : toh <= 1) (S T : Nat) (hS : toh * smz + 1 = S) (hT : top = T) (hST : S <= T) (hTn : T <= ws.length) (L : List Nat) (hL : zn (nx1 ws sr) S T L) :
 Calls Tryz.prog 91 #[.agg #[.slice (some ⟨b, off, none⟩) ws.length cw, .int .i64 smz, .int .i64 toh, .int .i64 top, .bool false, .int .i64 sn, .int .i64 old, .int .i64 cpz, .int .i64 sr, .slice ar rs.length cr], .slice (some ⟨bm, 0, none⟩) ws.length cm] w fun e w' => e = .returned (.bool true) /\ w'.rowIs bm 3 ws.length (fun i => if i ∈ L then .int .i64 1 else f0 i) /\ zz bm (bm + 1) w w' := by
 have HS : Hid (toh * smz + 1 = (S : Int)) := hS
 have lbm := hrow.lt
 have hn' : (ws.length : Int) <= 1048576 := by omega
 have hT1 : (T : Int) <= (ws.length : Int) := by omega
 subst hT
 clear hS
 go_enter Tryz.func91, Tryz.ntmps91
 go_wp2_with fail
 refine (zco _ _ _ _ _ _ _ _ _ _ _ _ _ _ _ _ _ t0 t1 s0 s1 HS.out).mono ?_
 rintro e w1 ⟨rfl, b1⟩
 have T0 : zd8 bm ws.length (w.alloc (.cells #[.slice (some ⟨b, off, none⟩) ws.length cw, .int .i64 smz, .int .i64 toh, .int .i64 (T : Int), .bool false, .int .i64 sn, .int .i64 old, .int .i64 cpz, .int .i64 sr, .slice ar rs.length cr] 30)) w1 f0 := ⟨(hrow.alloc _).of_block (b1.block bm (by simp; omega)), hints, zaf b1 (Nat.le_refl _) _ _⟩
 clear b1
 go_wp2
 go_loopw [5] (fun u5 wr => ∃ (P : Nat) (L1 L2 : List Nat), u5 = .int .i64 P /\ L = L1 ++ L2 /\ zn (nx1 ws sr) P T L2 /\ zd8 bm ws.length (w.alloc (.cells #[.slice (some ⟨b, off, none⟩) ws.length cw, .int .i64 smz, .int .i64 toh, .int .i64 (T : Int), .bool false, .int .i64 sn, .int .i64 old, .int .i64 cpz, .int .i64 sr, .slice ar rs.length cr] 30)) wr (fun i => if i ∈ L1 then .int .i64 1 else f0 i)) (fun u5 _ => T - (intOf u5).toNat)
 case atStart => exact ⟨S, [], L, rfl, rfl, hL, by simpa using T0⟩
 case round =>
  obtain ⟨P, L1, L2, rfl, hLL, hCh, hR⟩ := hrel
  clear T0
  have K := zcu hR.apart (by omega)
  have lw := hR.apart.size
  cases L2 with
  | nil =>
    obtain rfl : T = P := hCh
    have hr := hR.row
    have ha := hR.apart.first
    obtain rfl : L = L1 := by simpa using hLL
    clear hR hLL
    go_wp2
    go_ret
    exact ⟨rfl, hr, ha⟩
  | cons y L2 =>
    obtain ⟨rfl, s, hs, hle, hCh2⟩ := hCh.lt_of_cons
    obtain ⟨hok, hser, hsz⟩ := zdo hs
    rename_i P
    have hPT' : (y : Int) < (T : Int) := by omega
    have hPne : ((y : Int) != (T : Int)) = true := by simp; omega
    have q : wr.cell? ⟨b, off + y, none⟩ = some (.int .u64 (za ws y)) := by
     rw [World.cell?_of_block (w := (w.alloc (.cells #[.slice (some ⟨b, off, none⟩) ws.length cw, .int .i64 smz, .int .i64 toh, .int .i64 (T : Int), .bool false, .int .i64 sn, .int .i64 old, .int .i64 cpz, .int .i64 sr, .slice ar rs.length cr] 30))) (hR.apart.block b (by simp; omega) (by omega))]
     rw [World.cell?_alloc_lt w _ ⟨b, off + y, none⟩ hb']; exact hc y (by omega)
    have hx := zac hw y
    have hP0 : (y : Int) < (ws.length : Int) := by omega
    have hsb := za5 (za ws y)
    have hgt : ¬ (T : Int) < (y : Int) + rdS (za ws y) + 1 := by omega
    have hser' : ¬ sr <= rdN (za ws y) := by omega
    go_wp2_with fail
    refine (zbg _ _ hx.1 hx.2).mono ?_
    rintro e w2 ⟨rfl, b2⟩
    have K2 := ze K b2 (by simp at lw; omega)
    have l2 : w.heap.size < w2.heap.size := by simp at lw; have := b2.size; omega
    obtain ⟨zf, hzf⟩ := hR.ints y
    have hr2 := hR.row.of_block (b2.block bm hR.row.lt)
    have m1 : ∀ o, (w2.alloc o).cell? ⟨bm, y, none⟩ = some (.int .i64 zf) := fun o => by rw [(hr2.alloc o).cell (by omega), hzf]
    have m2 : ∀ o, (w2.alloc o).frozen? ⟨bm, y, none⟩ = false := fun o => (hr2.alloc o).frozen y
    have hne : bm ≠ w2.heap.size := by have := hr2.lt; omega
    have hst := fun o => zg8 (hR.step (o := o) b2 y 1)
    have HPn : Hid (((y + s + 1 : Nat) : Int) = (y : Int) + rdS (za ws y) + 1) := by show ((y + s + 1 : Nat) : Int) = (y : Int) + rdS (za ws y) + 1; omega
    have hLL2 : L = (L1 ++ [y]) ++ L2 := by rw [hLL]; simp
    clear K q hr2 hzf hR hLL hs hsz
    go_wp2
    go_roundw
    case rel => exact ⟨y + s + 1, L1 ++ [y], L2, by rw [HPn.out], hLL2, hCh2, hst _⟩
    case measure => simp only [intOf]; have := HPn.out; omega
end Go.Proofs.YtmckcnmlhgpnhaaGreat
