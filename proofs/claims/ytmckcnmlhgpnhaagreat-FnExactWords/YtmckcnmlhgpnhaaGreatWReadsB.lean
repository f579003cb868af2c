/- - -/
import Derived.Test.YtmckcnmlhgpnhaaGreatWArenaA
import Derived.Deep.RegionHeld3
import Derived.Deep.CutRange
namespace Go.Proofs.YtmckcnmlhgpnhaaGreat
set_option maxRecDepth 20000
open Go.RowKit
set_option linter.unusedSimpArgs false
set_option linter.unusedVariables false
def zcn (ws : List Int) (p : Nat) : Bool := vOk (wrap64 (za ws p)) (wrap64 (za ws (p + 1)))
def rvT (ws : List Int) (p : Nat) : Int := if zcn ws p = true then za ws p else 0
def rvN (ws : List Int) (p : Nat) : Int := if zcn ws p = true then wrap64 (za ws (p + 1)) else 0
theorem zdj (v : Value) (ws : List Int) (x : Int) (p : Nat) (w : World) (hx : x = p) (hs : Sl w v ws) (hn : ws.length <= 1048576) (hw : zg ws) (h : p + 1 < ws.length) :
 Calls Tryz.prog 45 #[v, .int .i64 x] w fun e w' => e = .returned (.tuple #[.agg #[.int .i64 (rvT ws p), .int .i64 (rvN ws p)], .bool (zcn ws p)]) /\ Below w.heap.size w w' := by
 subst hx
 obtain ⟨b, off, cap, rfl, hb, hc⟩ := hs.parts (k := p) (by omega)
 have hx := zac hw p
 have c1 : w.cell? ⟨b, off + p, none⟩ = some (.int .u64 (za ws p)) := hc p (by omega)
 have c2 : w.cell? ⟨b, off + (p + 1), none⟩ = some (.int .u64 (za ws (p + 1))) := hc (p + 1) (by omega)
 by_cases hr : zcn ws p = true
 · obtain ⟨g1, g2⟩ := zhu hx.1 hx.2 hr
   have := zqw b off cap ws.length p _ _ w h hn c1 c2 hb hx.1 g1 (by have := hr; unfold zcn at this; rw [g2] at this; exact this)
   simpa only [rvT, rvN, hr, if_true] using this
 · rw [Bool.not_eq_true] at hr
   have e1 : rvT ws p = 0 := by simp [rvT, hr]
   have e2 : rvN ws p = 0 := by simp [rvN, hr]
   rw [e1, e2, hr]
   by_cases hbig : 15 < za ws p
   · exact zqx b off cap ws.length p _ _ w h hn c1 c2 hb hbig
   · exact zs6 b off cap ws.length p _ _ w h hn c1 c2 hb hx.1 (by omega) (by have := hr; unfold zcn at this; rw [zmn hx.1 (by omega)] at this; exact this)
theorem zs0 (aw : Option Addr) (cw : Nat) (ws : List Int) (smz toh top : Int) (cyc : Bool) (sn old cpz sr : Int) (ar : Option Addr) (cr : Nat) (rs : List (Int × Int)) (x y : Int) (p i : Nat) (w : World) (hx : x = p) (hy : y = i) (hs : Sl w (.slice aw ws.length cw) ws) (hn : ws.length <= 1048576) (h : p + i < ws.length) :
 Calls Tryz.prog 126 #[.agg #[.slice aw ws.length cw, .int .i64 smz, .int .i64 toh, .int .i64 top, .bool cyc, .int .i64 sn, .int .i64 old, .int .i64 cpz, .int .i64 sr, .slice ar rs.length cr], .int .i64 x, .int .i64 y] w fun e w' => e = .returned (.int .i64 (wrap64 (za ws (p + i)))) /\ Below w.heap.size w w' := by
 subst hx hy; exact zjq aw cw ws smz toh top cyc sn old cpz sr ar cr rs p i w hs hn h
theorem zbr (aw : Option Addr) (cw : Nat) (ws : List Int) (smz toh top : Int) (cyc : Bool) (sn old cpz sr : Int) (ar : Option Addr) (cr : Nat) (rs : List (Int × Int)) (x : Int) (p : Nat) (w : World) (hx : x = p) (hs : Sl w (.slice aw ws.length cw) ws) (hn : ws.length <= 1048576) (hw : zg ws) (h : p < ws.length) :
 Calls Tryz.prog 43 #[.agg #[.slice aw ws.length cw, .int .i64 smz, .int .i64 toh, .int .i64 top, .bool cyc, .int .i64 sn, .int .i64 old, .int .i64 cpz, .int .i64 sr, .slice ar rs.length cr], .int .i64 x] w fun e w' => e = .returned (.agg #[.int .i64 (rdK (za ws p)), .int .i64 (rdS (za ws p)), .int .i64 (rdN (za ws p))]) /\ Below w.heap.size w w' := by
 subst hx; exact zqp aw cw ws smz toh top cyc sn old cpz sr ar cr rs p w hs hn hw h
theorem zce (aw : Option Addr) (cw : Nat) (ws : List Int) (smz toh top : Int) (cyc : Bool) (sn old cpz sr : Int) (ar : Option Addr) (cr : Nat) (rs : List (Int × Int)) (x : Int) (p : Nat) (w : World) (hx : x = p) (hs : Sl w (.slice aw ws.length cw) ws) (hn : ws.length <= 1048576) (hw : zg ws) (h : p < ws.length) :
 Calls Tryz.prog 46 #[.agg #[.slice aw ws.length cw, .int .i64 smz, .int .i64 toh, .int .i64 top, .bool cyc, .int .i64 sn, .int .i64 old, .int .i64 cpz, .int .i64 sr, .slice ar rs.length cr], .int .i64 x] w fun e w' => e = .returned (.int .i64 (zi ws p)) /\ Below w.heap.size w w' := by
 subst hx; exact zom aw cw ws smz toh top cyc sn old cpz sr ar cr rs p w hs hn hw h
theorem zas {w : World} {v : Value} {zs : List Int} (h : Sl w v zs) (o : Obj) : Sl (w.alloc o) v zs := h.below ((Below.refl _ _).alloc (Nat.le_refl _) _)
theorem zmj (aw : Option Addr) (cw : Nat) (ws : List Int) (smz toh top : Int) (cyc : Bool) (sn old cpz sr : Int) (ar : Option Addr) (cr : Nat) (rs : List (Int × Int)) (x y : Int) (p i : Nat) (w : World) (hx : x = p) (hy : y = i) (hs : Sl w (.slice aw ws.length cw) ws) (hn : ws.length <= 1048576) (hw : zg ws) (h : p + 1 + 4 * i + 1 < ws.length) :
 Calls Tryz.prog 129 #[.agg #[.slice aw ws.length cw, .int .i64 smz, .int .i64 toh, .int .i64 top, .bool cyc, .int .i64 sn, .int .i64 old, .int .i64 cpz, .int .i64 sr, .slice ar rs.length cr], .int .i64 x, .int .i64 y] w fun e w' => e = .returned (.agg #[.int .i64 (rvT ws (p + 1 + 4 * i)), .int .i64 (rvN ws (p + 1 + 4 * i))]) /\ Below w.heap.size w w' := by
 have x0 : 0 <= x := by omega
 have y0 : 0 <= y := by omega
 have x1 : x <= 1048576 := by omega
 have y1 : y <= 1048576 := by omega
 have hP : x + 1 + 4 * y = ((p + 1 + 4 * i : Nat) : Int) := by omega
 clear hx hy
 have HP : Hid (x + 1 + 4 * y = ((p + 1 + 4 * i : Nat) : Int)) := hP
 clear hP
 go_enter Tryz.func129, Tryz.ntmps129
 go_wp2_with fail
 refine (zdj _ ws _ (p + 1 + 4 * i) _ HP.out (zas (zas hs _) _) hn hw h).mono ?_
 rintro e w1 ⟨rfl, b1⟩
 obtain ⟨c1, f1⟩ := zo b1
 have z1 := zeh b1
 have B1 := zae b1
 go_wp2
 have p0 : (w1.cell? ⟨w.heap.size + 1, 0, none⟩).isSome = true := by rw [c1 _ _ (by simp)]; simp [go_sem]
 have p1 : (w1.cell? ⟨w.heap.size + 1, 1, none⟩).isSome = true := by rw [c1 _ _ (by simp)]; simp [go_sem]
 have hne : w.heap.size + 1 ≠ w1.heap.size := by omega
 refine bodyPost_ret (v := .agg #[.int .i64 (rvT ws (p + 1 + 4 * i)), .int .i64 (rvN ws (p + 1 + 4 * i))]) (by simp [results, Tryz.results129, go_sem, p0, p1, hne, World.cell?_alloc_lt, z1]) rfl ⟨rfl, ?_⟩
 have hle : w.heap.size <= w.heap.size + 1 := Nat.le_succ _
 refine Below.alloc ?_ (by simpa using B1.size) _
 exact (B1.setCell (p := ⟨w.heap.size + 1, 0, none⟩) hle _).setCell (p := ⟨w.heap.size + 1, 1, none⟩) hle _
theorem zdp (x y z : Int) (w : World) : (Instr.field 78 (.agg #[.int .i64 x, .int .i64 y, .int .i64 z]) 0).run Tryz.prog w = .ok (.int .i64 x) w := by kernel_rfl
theorem zfl (x y z : Int) (w : World) : (Instr.field 78 (.agg #[.int .i64 x, .int .i64 y, .int .i64 z]) 1).run Tryz.prog w = .ok (.int .i64 y) w := by kernel_rfl
theorem zfw (x y z : Int) (w : World) : (Instr.field 78 (.agg #[.int .i64 x, .int .i64 y, .int .i64 z]) 2).run Tryz.prog w = .ok (.int .i64 z) w := by kernel_rfl
def zbk (ws : List Int) (p : Nat) : Nat -> Nat
 | 0 => 0
 | n + 1 => zbk ws p n + (if za ws (p + 1 + 4 * n) = 0 then 0 else 1)
theorem zjc (ws : List Int) (p n : Nat) : zbk ws p n <= n := by
 induction n with
 | zero => exact Nat.le_refl _
 | succ n ih => simp only [zbk]; split <;> omega
theorem zs1 (ws : List Int) (p k : Nat) (h : ¬ za ws (p + 1 + 4 * k) = 0) : zbk ws p (k + 1) = zbk ws p k + 1 := by simp [zbk, h]
theorem zqo (ws : List Int) (p k : Nat) (h : za ws (p + 1 + 4 * k) = 0) : zbk ws p (k + 1) = zbk ws p k := by simp [zbk, h]
theorem zct (aw : Option Addr) (cw : Nat) (ws : List Int) (smz toh top : Int) (cyc : Bool) (sn old cpz sr : Int) (ar : Option Addr) (cr : Nat) (rs : List (Int × Int)) (x y z : Int) (p i : Nat) (w : World) (hx : x = p) (hy : y = i) (hz : wrap64 (za ws (p + i)) = z) (hs : Sl w (.slice aw ws.length cw) ws) (hn : ws.length <= 1048576) (h : p + i < ws.length) :
 Calls Tryz.prog 126 #[.agg #[.slice aw ws.length cw, .int .i64 smz, .int .i64 toh, .int .i64 top, .bool cyc, .int .i64 sn, .int .i64 old, .int .i64 cpz, .int .i64 sr, .slice ar rs.length cr], .int .i64 x, .int .i64 y] w fun e w' => e = .returned (.int .i64 z) /\ Below w.heap.size w w' := by
 subst hx hy hz; exact zjq aw cw ws smz toh top cyc sn old cpz sr ar cr rs p i w hs hn h
theorem zs2 (aw : Option Addr) (cw : Nat) (ws : List Int) (smz toh top : Int) (cyc : Bool) (sn old cpz sr : Int) (ar : Option Addr) (cr : Nat) (rs : List (Int × Int)) (x : Int) (p N : Nat) (w : World) (hx : x = p) (hs : Sl w (.slice aw ws.length cw) ws) (hn : ws.length <= 1048576) (hw : zg ws) (hN : (rdS (za ws p)).tdiv 4 = N) (hS : 0 <= rdS (za ws p)) (hS1 : rdS (za ws p) <= 65535) (h : p + 4 * N < ws.length) :
 Calls Tryz.prog 128 #[.agg #[.slice aw ws.length cw, .int .i64 smz, .int .i64 toh, .int .i64 top, .bool cyc, .int .i64 sn, .int .i64 old, .int .i64 cpz, .int .i64 sr, .slice ar rs.length cr], .int .i64 x] w fun e w' => e = .returned (.tuple #[.int .i64 (zbk ws p N), .int .i64 N]) /\ Below w.heap.size w w' := by
 have x0 : 0 <= x := by omega
 have x1 : x <= 1048576 := by omega
 obtain ⟨b, off, rfl, hl, hc⟩ := zcx hs (k := p) (by omega)
 have hc' : ∀ i, i < ws.length -> w.cell? ⟨b, off + i, none⟩ = some (.int .u64 (za ws i)) := fun i hi => by
  have := hc i hi (.cells #[] 0)
  rwa [World.cell?_alloc_lt w _ ⟨b, off + i, none⟩ hl] at this
 clear hc
 have hp : p < ws.length := by omega
 have hfs := zfl
 have HX : Hid (x = (p : Int)) := hx
 clear hx
 go_enter Tryz.func128, Tryz.ntmps128
 go_wp2_with fail
 refine (zbr _ _ _ _ _ _ _ _ _ _ _ _ _ _ _ p _ HX.out (zas hs _) hn hw hp).mono ?_
 rintro e w1 ⟨rfl, b1⟩
 obtain ⟨k0, k1, k2, k3, k4, k5, k6, k7, k8, k9⟩ := zbx b1
 have B1 := zd b1
 clear b1
 go_wp2
 go_loopw [7, 8] (fun u i wr => ∃ k : Nat, k <= N /\ i = .int .i64 k /\ u = .int .i64 (zbk ws p k) /\ wr = w1) (fun _ i _ => N - (intOf i).toNat)
 case atStart => exact ⟨0, Nat.zero_le _, rfl, rfl, rfl⟩
 case round =>
  obtain ⟨k, hk, rfl, rfl, rfl⟩ := hrel
  by_cases hlt : k < N
  · have hk' : (k : Int) < (N : Int) := by omega
    have hU := zjc ws p k
    have hU' : (zbk ws p k : Int) <= 1048576 := by omega
    have q : wr.cell? ⟨b, off + (p + 1 + 4 * k), none⟩ = some (.int .u64 (za ws (p + 1 + 4 * k))) := by
     rw [B1.cell (p := ⟨b, off + (p + 1 + 4 * k), none⟩) hl]; exact hc' _ (by omega)
    have hi0 : 0 <= x + 1 + 4 * (k : Int) := by omega
    have hi1 : x + 1 + 4 * (k : Int) < (ws.length : Int) := by have := HX.out; omega
    have hi2 : (x + 1 + 4 * (k : Int)).toNat = p + 1 + 4 * k := by have := HX.out; omega
    go_wp2
    · have e := zs1 ws p k (by simpa using ‹(za ws (p + 1 + 4 * k) != 0) = true›)
      go_roundw
      case rel => exact ⟨k + 1, hlt, by go_num, by rw [e]; go_num, trivial⟩
      case measure => simp [intOf]; omega
    · have e := zqo ws p k (by simpa using ‹(za ws (p + 1 + 4 * k) != 0) = false›)
      go_roundw
      case rel => exact ⟨k + 1, hlt, by go_num, by rw [e], trivial⟩
      case measure => simp [intOf]; omega
  · obtain rfl : k = N := by omega
    go_wp2
    go_ret2
    exact ⟨rfl, B1⟩
def zdq (ws : List Int) (p : Nat) (s : Int) : Bool := decide (za ws (p + 1) <= 160 /\ s = 1 + (za ws (p + 1) + 7) / 8 /\
 (za ws (p + 1) % 8 = 0 \/ za ws (p + s.toNat) / 2 ^ (8 * (za ws (p + 1) % 8)).toNat = 0))
theorem zoq (aw : Option Addr) (cw : Nat) (ws : List Int) (smz toh top : Int) (cyc : Bool) (sn old cpz sr : Int) (ar : Option Addr) (cr : Nat) (rs : List (Int × Int)) (x s z : Int) (p : Nat) (w : World) (hx : x = p) (hs : Sl w (.slice aw ws.length cw) ws) (hn : ws.length <= 1048576) (hw : zg ws) (h : p + 1 < ws.length) (hz : wrap64 (za ws (p + 1)) = z) (hf : inB z 0 160 = false) :
 Calls Tryz.prog 125 #[.agg #[.slice aw ws.length cw, .int .i64 smz, .int .i64 toh, .int .i64 top, .bool cyc, .int .i64 sn, .int .i64 old, .int .i64 cpz, .int .i64 sr, .slice ar rs.length cr], .int .i64 x, .int .i64 s] w fun e w' => e = .returned (.bool false) /\ Below w.heap.size w w' := by
 have HX : Hid (x = (p : Int)) := hx
 have HZ : Hid (wrap64 (za ws (p + 1)) = z) := hz
 clear hx hz
 go_enter Tryz.func125, Tryz.ntmps125
 go_wp2_with fail
 refine (zct _ _ _ _ _ _ _ _ _ _ _ _ _ _ _ _ z p 1 _ HX.out rfl HZ.out (zas hs _) hn h).mono ?_
 rintro e w1 ⟨rfl, b1⟩
 have B1 := zd b1
 clear b1
 go_wp2_with (go_at_call 104; refine (zw _ _ _ _).mono ?_; rintro e w' ⟨rfl, rfl⟩)
 go_ret
 exact ⟨rfl, B1⟩
theorem zmr (aw : Option Addr) (cw : Nat) (ws : List Int) (smz toh top : Int) (cyc : Bool) (sn old cpz sr : Int) (ar : Option Addr) (cr : Nat) (rs : List (Int × Int)) (x s z d : Int) (p : Nat) (w : World) (hx : x = p) (hs : Sl w (.slice aw ws.length cw) ws) (hn : ws.length <= 1048576) (hw : zg ws) (h : p + 1 < ws.length) (hz : wrap64 (za ws (p + 1)) = z) (hf : inB z 0 160 = true) (z0 : 0 <= z) (z1 : z <= 160) (hd : (z + 7).tdiv 8 = d) (d0 : 0 <= d) (d1 : d <= 20) (hne : (s != 1 + d) = true) :
 Calls Tryz.prog 125 #[.agg #[.slice aw ws.length cw, .int .i64 smz, .int .i64 toh, .int .i64 top, .bool cyc, .int .i64 sn, .int .i64 old, .int .i64 cpz, .int .i64 sr, .slice ar rs.length cr], .int .i64 x, .int .i64 s] w fun e w' => e = .returned (.bool false) /\ Below w.heap.size w w' := by
 have HX : Hid (x = (p : Int)) := hx
 have HZ : Hid (wrap64 (za ws (p + 1)) = z) := hz
 clear hx hz
 go_enter Tryz.func125, Tryz.ntmps125
 go_wp2_with fail
 refine (zct _ _ _ _ _ _ _ _ _ _ _ _ _ _ _ _ z p 1 _ HX.out rfl HZ.out (zas hs _) hn h).mono ?_
 rintro e w1 ⟨rfl, b1⟩
 have B1 := zd b1
 clear b1
 go_wp2_with (go_at_call 104; refine (zw _ _ _ _).mono ?_; rintro e w' ⟨rfl, rfl⟩)
 go_ret
 exact ⟨rfl, B1⟩
theorem zms (aw : Option Addr) (cw : Nat) (ws : List Int) (smz toh top : Int) (cyc : Bool) (sn old cpz sr : Int) (ar : Option Addr) (cr : Nat) (rs : List (Int × Int)) (x s z d : Int) (p : Nat) (w : World) (hx : x = p) (hs : Sl w (.slice aw ws.length cw) ws) (hn : ws.length <= 1048576) (hw : zg ws) (h : p + 1 < ws.length) (hz : wrap64 (za ws (p + 1)) = z) (hf : inB z 0 160 = true) (z0 : 0 <= z) (z1 : z <= 160) (hd : (z + 7).tdiv 8 = d) (d0 : 0 <= d) (d1 : d <= 20) (hne : (s != 1 + d) = false) (hl : z.tmod 8 = 0) :
 Calls Tryz.prog 125 #[.agg #[.slice aw ws.length cw, .int .i64 smz, .int .i64 toh, .int .i64 top, .bool cyc, .int .i64 sn, .int .i64 old, .int .i64 cpz, .int .i64 sr, .slice ar rs.length cr], .int .i64 x, .int .i64 s] w fun e w' => e = .returned (.bool true) /\ Below w.heap.size w w' := by
 have HX : Hid (x = (p : Int)) := hx
 have HZ : Hid (wrap64 (za ws (p + 1)) = z) := hz
 clear hx hz
 go_enter Tryz.func125, Tryz.ntmps125
 go_wp2_with fail
 refine (zct _ _ _ _ _ _ _ _ _ _ _ _ _ _ _ _ z p 1 _ HX.out rfl HZ.out (zas hs _) hn h).mono ?_
 rintro e w1 ⟨rfl, b1⟩
 have B1 := zd b1
 clear b1
 go_wp2_with (go_at_call 104; refine (zw _ _ _ _).mono ?_; rintro e w' ⟨rfl, rfl⟩)
 go_ret
 exact ⟨rfl, B1⟩
theorem zor (b off : Nat) (cw : Nat) (ws : List Int) (smz toh top : Int) (cyc : Bool) (sn old cpz sr : Int) (ar : Option Addr) (cr : Nat) (rs : List (Int × Int)) (x s z d l y : Int) (p : Nat) (w : World) (hx : x = p) (hs : Sl w (.slice (some ⟨b, off, none⟩) ws.length cw) ws) (hn : ws.length <= 1048576) (hw : zg ws) (h : p + 1 < ws.length) (hz : wrap64 (za ws (p + 1)) = z) (hf : inB z 0 160 = true) (z0 : 0 <= z) (z1 : z <= 160) (hd : (z + 7).tdiv 8 = d) (d0 : 0 <= d) (d1 : d <= 20) (hne : (s != 1 + d) = false) (hl : z.tmod 8 = l) (l0 : 1 <= l) (l1 : l <= 7)
 (x0 : 0 <= x) (x1 : x <= 1048576) (s0 : 0 <= s) (s1 : s <= 65535) (i1 : x + s < (ws.length : Int)) (hy0 : 0 <= y) (hy1 : y < 18446744073709551616) (hc : ∀ W, Below w.heap.size w W -> W.cell? ⟨b, off + (x + s).toNat, none⟩ = some (.int .u64 y)) :
 Calls Tryz.prog 125 #[.agg #[.slice (some ⟨b, off, none⟩) ws.length cw, .int .i64 smz, .int .i64 toh, .int .i64 top, .bool cyc, .int .i64 sn, .int .i64 old, .int .i64 cpz, .int .i64 sr, .slice ar rs.length cr], .int .i64 x, .int .i64 s] w fun e w' => e = .returned (.bool (decide (y / 2 ^ (8 * l).toNat = 0))) /\ Below w.heap.size w w' := by
 have HX : Hid (x = (p : Int)) := hx
 have HZ : Hid (wrap64 (za ws (p + 1)) = z) := hz
 clear hx hz
 have hn' : (ws.length : Int) <= 1048576 := by omega
 have hll : l = 1 \/ l = 2 \/ l = 3 \/ l = 4 \/ l = 5 \/ l = 6 \/ l = 7 := by omega
 rcases hll with rfl | rfl | rfl | rfl | rfl | rfl | rfl
 all_goals
  go_enter Tryz.func125, Tryz.ntmps125
  go_wp2_with fail
  refine (zct _ _ _ _ _ _ _ _ _ _ _ _ _ _ _ _ z p 1 _ HX.out rfl HZ.out (zas hs _) hn h).mono ?_
  rintro e w1 ⟨rfl, b1⟩
  obtain ⟨k0, k1, k2, k3, k4, k5, k6, k7, k8, k9⟩ := zbx b1
  have B1 := zd b1
  have q := hc w1 B1
  clear b1 hc
  go_wp2_with (go_at_call 104; refine (zw _ _ _ _).mono ?_; rintro e w' ⟨rfl, rfl⟩)
  go_ret
  refine ⟨zbh ?_, B1⟩
  go_light
 all_goals rfl
theorem za8 {x : Int} (h0 : 0 <= x) (h1 : x < 9223372036854775808) : wrap64 x = x := by unfold wrap64; omega
theorem zb5 {x : Int} (b : Int) (h0 : 0 <= x) (h1 : x < 18446744073709551616) (hb : 0 <= b) (hb' : b < 9223372036854775808) : inB (wrap64 x) 0 b = decide (x <= b) := by
 unfold inB
 rw [decide_eq_decide]
 unfold wrap64
 omega
theorem zqy (aw : Option Addr) (cw : Nat) (ws : List Int) (smz toh top : Int) (cyc : Bool) (sn old cpz sr : Int) (ar : Option Addr) (cr : Nat) (rs : List (Int × Int)) (x s : Int) (p : Nat) (w : World) (hx : x = p) (hs : Sl w (.slice aw ws.length cw) ws) (hn : ws.length <= 1048576) (hw : zg ws) (s0 : 1 <= s) (s1 : s <= 65535) (h : p + s.toNat < ws.length) :
 Calls Tryz.prog 125 #[.agg #[.slice aw ws.length cw, .int .i64 smz, .int .i64 toh, .int .i64 top, .bool cyc, .int .i64 sn, .int .i64 old, .int .i64 cpz, .int .i64 sr, .slice ar rs.length cr], .int .i64 x, .int .i64 s] w fun e w' => e = .returned (.bool (zdq ws p s)) /\ Below w.heap.size w w' := by
 have hz := zac hw (p + 1)
 by_cases hf : za ws (p + 1) <= 160
 · have hwz : wrap64 (za ws (p + 1)) = za ws (p + 1) := za8 hz.1 (by omega)
   have hf' : inB (za ws (p + 1)) 0 160 = true := decide_eq_true ⟨hz.1, hf⟩
   have hd : (za ws (p + 1) + 7).tdiv 8 = (za ws (p + 1) + 7) / 8 := Int.tdiv_eq_ediv_of_nonneg (by omega)
   have hl : (za ws (p + 1)).tmod 8 = za ws (p + 1) % 8 := Int.tmod_eq_emod_of_nonneg (by omega)
   by_cases he : s = 1 + (za ws (p + 1) + 7) / 8
   · have he' : (s != 1 + (za ws (p + 1) + 7) / 8) = false := by simpa using he
     by_cases h8 : za ws (p + 1) % 8 = 0
     · have := zms aw cw ws smz toh top cyc sn old cpz sr ar cr rs x s _ _ p w hx hs hn hw (by omega) hwz hf' hz.1 hf hd (by omega) (by omega) he' (by omega)
       have e : zdq ws p s = true := decide_eq_true ⟨hf, he, .inl h8⟩
       rw [e]; exact this
     · obtain ⟨b, off, rfl, hl', hc⟩ := zcx hs (k := p) (by omega)
       have hy := zac hw (p + s.toNat)
       have := zor b off cw ws smz toh top cyc sn old cpz sr ar cr rs x s _ _ _ (za ws (p + s.toNat)) p w hx hs hn hw (by omega) hwz hf' hz.1 hf hd (by omega) (by omega) he' hl (by omega) (by omega) (by omega) (by omega) (by omega) (by omega) (by omega) hy.1 hy.2 (fun W hW => by
        have := hc (p + s.toNat) h (.cells #[] 0)
        rw [World.cell?_alloc_lt w _ ⟨b, off + (p + s.toNat), none⟩ hl'] at this
        rw [show (x + s).toNat = p + s.toNat by omega, hW.cell (p := ⟨b, off + (p + s.toNat), none⟩) hl']
        exact this)
       have e : zdq ws p s = decide (za ws (p + s.toNat) / 2 ^ (8 * (za ws (p + 1) % 8)).toNat = 0) := by
        unfold zdq
        rw [decide_eq_decide]
        exact ⟨fun g => g.2.2.resolve_left h8, fun g => ⟨hf, he, .inr g⟩⟩
       rw [e]; exact this
   · have he' : (s != 1 + (za ws (p + 1) + 7) / 8) = true := by simpa using he
     have := zmr aw cw ws smz toh top cyc sn old cpz sr ar cr rs x s _ _ p w hx hs hn hw (by omega) hwz hf' hz.1 hf hd (by omega) (by omega) he'
     have e : zdq ws p s = false := decide_eq_false fun g => he g.2.1
     rw [e]; exact this
 · have := zoq aw cw ws smz toh top cyc sn old cpz sr ar cr rs x s _ p w hx hs hn hw (by omega) rfl (by rw [zb5 160 hz.1 hz.2 (by omega) (by omega)]; exact decide_eq_false hf)
   have e : zdq ws p s = false := decide_eq_false fun g => hf g.1
   rw [e]; exact this
end Go.Proofs.YtmckcnmlhgpnhaaGreat
