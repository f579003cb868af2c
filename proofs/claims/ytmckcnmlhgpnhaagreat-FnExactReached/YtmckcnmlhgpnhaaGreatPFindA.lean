/- - -/
import Derived.Test.YtmckcnmlhgpnhaaGreatPSameA
import Derived.Test.YtmckcnmlhgpnhaaGreatPLeadsB
namespace Go.Proofs.YtmckcnmlhgpnhaaGreat
set_option maxRecDepth 20000
open Go.RowKit
set_option linter.unusedSimpArgs false
set_option linter.unusedVariables false
def zd0 (ws : List Int) (q : Nat) : Nat -> Int
 | 0 => 5381
 | k + 1 => (33 * zd0 ws q k + zdt ws q k) % 1000003
theorem zid (ws : List Int) (q k : Nat) : 0 <= zd0 ws q k /\ zd0 ws q k < 1000003 := by
 cases k with
 | zero => simp [zd0]
 | succ k => simp only [zd0]; omega
def za8 (ws : List Int) (t m : Int) : Int :=
 if t = 1 then m else if t = 2 then m % 18446744073709551616 % 1000003 else if t = 7 then m + 7 else if t = 3 then zd0 ws (zh ws m.toNat).toNat (zaf ws (zh ws m.toNat).toNat) else rdN (za ws (zh ws m.toNat).toNat)
theorem zmz (aw : Option Addr) (cw : Nat) (ws : List Int) (smz toh top : Int) (cyc : Bool) (sn old cpz sr : Int) (ar : Option Addr) (cr : Nat) (rs : List (Int × Int)) (t m : Int) (w : World) (h : (t == 1) = true) :
 Calls Tryz.prog 161 #[.agg #[.slice aw ws.length cw, .int .i64 smz, .int .i64 toh, .int .i64 top, .bool cyc, .int .i64 sn, .int .i64 old, .int .i64 cpz, .int .i64 sr, .slice ar rs.length cr], .agg #[.int .i64 t, .int .i64 m]] w fun e w' => e = .returned (.int .i64 m) /\ Below w.heap.size w w' := by
 go_enter Tryz.func161, Tryz.ntmps161
 go_wp2
 go_ret
 exact ⟨rfl, zw (Below.refl _ _)⟩
theorem zld (m : Int) : wrap64 ((IntKind.u64.wrap m).tmod 1000003) = m % 18446744073709551616 % 1000003 := by
 rw [IntKind.wrap_u64]
 rw [Int.tmod_eq_emod_of_nonneg (by omega)]
 exact zaz (by omega) (by omega)
theorem zpd (aw : Option Addr) (cw : Nat) (ws : List Int) (smz toh top : Int) (cyc : Bool) (sn old cpz sr : Int) (ar : Option Addr) (cr : Nat) (rs : List (Int × Int)) (t m : Int) (w : World) (h1 : (t == 1) = false) (h : (t == 2) = true) :
 Calls Tryz.prog 161 #[.agg #[.slice aw ws.length cw, .int .i64 smz, .int .i64 toh, .int .i64 top, .bool cyc, .int .i64 sn, .int .i64 old, .int .i64 cpz, .int .i64 sr, .slice ar rs.length cr], .agg #[.int .i64 t, .int .i64 m]] w fun e w' => e = .returned (.int .i64 (m % 18446744073709551616 % 1000003)) /\ Below w.heap.size w w' := by
 go_enter Tryz.func161, Tryz.ntmps161
 go_wp2
 go_ret
 exact ⟨zbu (zld m), zw (Below.refl _ _)⟩
theorem zpe (aw : Option Addr) (cw : Nat) (ws : List Int) (smz toh top : Int) (cyc : Bool) (sn old cpz sr : Int) (ar : Option Addr) (cr : Nat) (rs : List (Int × Int)) (t m : Int) (w : World) (h1 : (t == 1) = false) (h2 : (t == 2) = false) (h : (t == 7) = true) (m0 : 1 <= m) (m1 : m <= 20) :
 Calls Tryz.prog 161 #[.agg #[.slice aw ws.length cw, .int .i64 smz, .int .i64 toh, .int .i64 top, .bool cyc, .int .i64 sn, .int .i64 old, .int .i64 cpz, .int .i64 sr, .slice ar rs.length cr], .agg #[.int .i64 t, .int .i64 m]] w fun e w' => e = .returned (.int .i64 (m + 7)) /\ Below w.heap.size w w' := by
 go_enter Tryz.func161, Tryz.ntmps161
 go_wp2
 go_ret
 exact ⟨rfl, zw (Below.refl _ _)⟩
theorem zg6 {w W : World} {A B : Array Value} {ta tb : TypeId} (hB : Below ((w.alloc (.cells A ta)).alloc (.cells B tb)).heap.size ((w.alloc (.cells A ta)).alloc (.cells B tb)) W) :
 (∀ i, W.cell? ⟨w.heap.size, i, none⟩ = A[i]?) /\ (∀ i, W.cell? ⟨w.heap.size + 1, i, none⟩ = B[i]?) := by
 refine ⟨fun i => ?_, fun i => ?_⟩
 · rw [hB.cell (p := ⟨w.heap.size, i, none⟩) (by simp; omega)]; simp [go_sem]
 · rw [hB.cell (p := ⟨w.heap.size + 1, i, none⟩) (by simp)]; simp [go_sem]
set_option maxHeartbeats 2000000 in
theorem zm0 (aw : Option Addr) (cw : Nat) (ws : List Int) (smz toh top : Int) (cyc : Bool) (sn old cpz sr : Int) (ar : Option Addr) (cr : Nat) (rs : List (Int × Int)) (t m : Int) (P P' : Nat) (w : World) (h1 : (t == 1) = false) (h2 : (t == 2) = false) (h7 : (t == 7) = false) (h3 : (t == 3) = false) (hs : Sl w (.slice aw ws.length cw) ws) (hn : ws.length <= 1048576) (hw : zi ws) (hP : m = P) (hP1 : P < ws.length) (hP' : zh ws P = P') (hP2 : P' < ws.length) :
 Calls Tryz.prog 161 #[.agg #[.slice aw ws.length cw, .int .i64 smz, .int .i64 toh, .int .i64 top, .bool cyc, .int .i64 sn, .int .i64 old, .int .i64 cpz, .int .i64 sr, .slice ar rs.length cr], .agg #[.int .i64 t, .int .i64 m]] w fun e w' => e = .returned (.int .i64 (rdN (za ws P'))) /\ Below w.heap.size w w' := by
 have HP : Hid (m = (P : Int)) := hP
 have HP' : Hid (zh ws P = (P' : Int)) := hP'
 have hfs := zfg
 clear hP hP'
 have KP : ∀ W, Below ((w.alloc (.cells #[.slice aw ws.length cw, .int .i64 smz, .int .i64 toh, .int .i64 top, .bool cyc, .int .i64 sn, .int .i64 old, .int .i64 cpz, .int .i64 sr, .slice ar rs.length cr] 30)).alloc (.cells #[.int .i64 t, .int .i64 m] 48)).heap.size ((w.alloc (.cells #[.slice aw ws.length cw, .int .i64 smz, .int .i64 toh, .int .i64 top, .bool cyc, .int .i64 sn, .int .i64 old, .int .i64 cpz, .int .i64 sr, .slice ar rs.length cr] 30)).alloc (.cells #[.int .i64 t, .int .i64 m] 48)) W -> (Below ((w.alloc (.cells #[.slice aw ws.length cw, .int .i64 smz, .int .i64 toh, .int .i64 top, .bool cyc, .int .i64 sn, .int .i64 old, .int .i64 cpz, .int .i64 sr, .slice ar rs.length cr] 30)).alloc (.cells #[.int .i64 t, .int .i64 m] 48)).heap.size ((w.alloc (.cells #[.slice aw ws.length cw, .int .i64 smz, .int .i64 toh, .int .i64 top, .bool cyc, .int .i64 sn, .int .i64 old, .int .i64 cpz, .int .i64 sr, .slice ar rs.length cr] 30)).alloc (.cells #[.int .i64 t, .int .i64 m] 48)) W /\ (∀ i, W.cell? ⟨w.heap.size, i, none⟩ = (#[.slice aw ws.length cw, .int .i64 smz, .int .i64 toh, .int .i64 top, .bool cyc, .int .i64 sn, .int .i64 old, .int .i64 cpz, .int .i64 sr, .slice ar rs.length cr] : Array Value)[i]?) /\ (∀ i, W.cell? ⟨w.heap.size + 1, i, none⟩ = (#[.int .i64 t, .int .i64 m] : Array Value)[i]?)) := fun W hW => ⟨hW, zg6 hW⟩
 have HS : ∀ W, Below ((w.alloc (.cells #[.slice aw ws.length cw, .int .i64 smz, .int .i64 toh, .int .i64 top, .bool cyc, .int .i64 sn, .int .i64 old, .int .i64 cpz, .int .i64 sr, .slice ar rs.length cr] 30)).alloc (.cells #[.int .i64 t, .int .i64 m] 48)).heap.size ((w.alloc (.cells #[.slice aw ws.length cw, .int .i64 smz, .int .i64 toh, .int .i64 top, .bool cyc, .int .i64 sn, .int .i64 old, .int .i64 cpz, .int .i64 sr, .slice ar rs.length cr] 30)).alloc (.cells #[.int .i64 t, .int .i64 m] 48)) W -> Sl W (.slice aw ws.length cw) ws := fun W hW => hs.below (zw hW)
 go_enter Tryz.func161, Tryz.ntmps161
 go_wp2
 have b1' := (Below.refl ((w.alloc (.cells #[.slice aw ws.length cw, .int .i64 smz, .int .i64 toh, .int .i64 top, .bool cyc, .int .i64 sn, .int .i64 old, .int .i64 cpz, .int .i64 sr, .slice ar rs.length cr] 30)).alloc (.cells #[.int .i64 t, .int .i64 m] 48)).heap.size ((w.alloc (.cells #[.slice aw ws.length cw, .int .i64 smz, .int .i64 toh, .int .i64 top, .bool cyc, .int .i64 sn, .int .i64 old, .int .i64 cpz, .int .i64 sr, .slice ar rs.length cr] 30)).alloc (.cells #[.int .i64 t, .int .i64 m] 48))).drew
 clear hs
 go_region_held3 (fun W => Below ((w.alloc (.cells #[.slice aw ws.length cw, .int .i64 smz, .int .i64 toh, .int .i64 top, .bool cyc, .int .i64 sn, .int .i64 old, .int .i64 cpz, .int .i64 sr, .slice ar rs.length cr] 30)).alloc (.cells #[.int .i64 t, .int .i64 m] 48)).heap.size ((w.alloc (.cells #[.slice aw ws.length cw, .int .i64 smz, .int .i64 toh, .int .i64 top, .bool cyc, .int .i64 sn, .int .i64 old, .int .i64 cpz, .int .i64 sr, .slice ar rs.length cr] 30)).alloc (.cells #[.int .i64 t, .int .i64 m] 48)) W /\ (∀ i, W.cell? ⟨w.heap.size, i, none⟩ = (#[.slice aw ws.length cw, .int .i64 smz, .int .i64 toh, .int .i64 top, .bool cyc, .int .i64 sn, .int .i64 old, .int .i64 cpz, .int .i64 sr, .slice ar rs.length cr] : Array Value)[i]?) /\ (∀ i, W.cell? ⟨w.heap.size + 1, i, none⟩ = (#[.int .i64 t, .int .i64 m] : Array Value)[i]?)) (first | exact KP _ (by assumption) | exact KP _ b1') (first | (go_at_call 46; refine (zb3 _ _ _ _ _ _ _ _ _ _ _ _ _ _ m P _ HP.out (HS _ (And.left (by assumption))) hn hw hP1).mono ?_; rintro e w' ⟨rfl, hb⟩; have hB3 := zc (w := ((w.alloc (.cells #[.slice aw ws.length cw, .int .i64 smz, .int .i64 toh, .int .i64 top, .bool cyc, .int .i64 sn, .int .i64 old, .int .i64 cpz, .int .i64 sr, .slice ar rs.length cr] 30)).alloc (.cells #[.int .i64 t, .int .i64 m] 48))) (And.left (by assumption)) hb; clear hb) | (go_at_call 43; refine (zbj _ _ _ _ _ _ _ _ _ _ _ _ _ _ _ P' _ HP'.out (HS _ (And.left (by assumption))) hn hw hP2).mono ?_; rintro e w' ⟨rfl, hb⟩; have hB3 := zc (w := ((w.alloc (.cells #[.slice aw ws.length cw, .int .i64 smz, .int .i64 toh, .int .i64 top, .bool cyc, .int .i64 sn, .int .i64 old, .int .i64 cpz, .int .i64 sr, .slice ar rs.length cr] 30)).alloc (.cells #[.int .i64 t, .int .i64 m] 48))) (And.left (by assumption)) hb; clear hb))
 all_goals
  go_wp2
  go_ret
  exact ⟨rfl, zw (by assumption)⟩
theorem zie (ws : List Int) (q : Nat) : (txt ws q).size = zaf ws q := by simp [txt, ByteArray.size, zc4]
theorem znr (ws : List Int) (q k : Nat) (h : k < (txt ws q).size) : (txt ws q)[k].toNat = zdt ws q k := by
 have hk : k < (zc4 ws q).length := by rw [zd6, <- zie]; exact h
 have := zjk ws q k hk
 have e : (txt ws q)[k]'h = (zc4 ws q)[k]'hk := by simp [txt, ByteArray.getElem_eq_getElem_data]
 exact (congrArg UInt8.toNat e).trans (by omega)
theorem zj1 {h : Int} {x y : Nat} (h0 : 0 <= h) (h1 : h < 1000003) (hy : y < 256) (e : x = y) : (wrap64 (33 * h + wrap64 (x : Int))).tmod 1000003 = (33 * h + y) % 1000003 := by
 subst e
 rw [zaz (x := (x : Int)) (by omega) (by omega), zaz (by omega) (by omega), Int.tmod_eq_emod_of_nonneg (by omega)]
set_option maxHeartbeats 2000000 in
theorem zm1 (b off cw : Nat) (ws : List Int) (smz toh top : Int) (cyc : Bool) (sn old cpz sr : Int) (ar : Option Addr) (cr : Nat) (rs : List (Int × Int)) (t m : Int) (P P' : Nat) (w : World) (h1 : (t == 1) = false) (h2 : (t == 2) = false) (h7 : (t == 7) = false) (h3 : (t == 3) = true) (hs : Sl w (.slice (some ⟨b, off, none⟩) ws.length cw) ws) (hb : b < w.heap.size) (hc : ∀ i, i < ws.length -> w.cell? ⟨b, off + i, none⟩ = some (.int .u64 (za ws i))) (hn : ws.length <= 1048576) (hw : zi ws) (hP : m = P) (hP1 : P < ws.length) (hP' : zh ws P = P') (tP : zfk ws P') :
 Calls Tryz.prog 161 #[(.agg #[.slice (some ⟨b, off, none⟩) ws.length cw, .int .i64 smz, .int .i64 toh, .int .i64 top, .bool cyc, .int .i64 sn, .int .i64 old, .int .i64 cpz, .int .i64 sr, .slice ar rs.length cr]), .agg #[.int .i64 t, .int .i64 m]] w fun e w' => e = .returned (.int .i64 (zd0 ws P' (zaf ws P'))) /\ Below w.heap.size w w' := by
 have HP : Hid (m = (P : Int)) := hP
 have HP' : Hid (zh ws P = (P' : Int)) := hP'
 have wP := (zu hw (P' + 1)).1
 have nP : Hid (za ws (P' + 1) = (zaf ws P' : Int)) := by show za ws (P' + 1) = (zaf ws P' : Int); unfold zaf; omega
 have n1P : zaf ws P' <= 160 := by have := tP.1; unfold zaf; omega
 have n2P := tP.2
 clear hP hP' wP tP
 have KP : ∀ W, Below ((w.alloc (.cells #[.slice (some ⟨b, off, none⟩) ws.length cw, .int .i64 smz, .int .i64 toh, .int .i64 top, .bool cyc, .int .i64 sn, .int .i64 old, .int .i64 cpz, .int .i64 sr, .slice ar rs.length cr] 30)).alloc (.cells #[.int .i64 t, .int .i64 m] 48)).heap.size ((w.alloc (.cells #[.slice (some ⟨b, off, none⟩) ws.length cw, .int .i64 smz, .int .i64 toh, .int .i64 top, .bool cyc, .int .i64 sn, .int .i64 old, .int .i64 cpz, .int .i64 sr, .slice ar rs.length cr] 30)).alloc (.cells #[.int .i64 t, .int .i64 m] 48)) W -> (Below ((w.alloc (.cells #[.slice (some ⟨b, off, none⟩) ws.length cw, .int .i64 smz, .int .i64 toh, .int .i64 top, .bool cyc, .int .i64 sn, .int .i64 old, .int .i64 cpz, .int .i64 sr, .slice ar rs.length cr] 30)).alloc (.cells #[.int .i64 t, .int .i64 m] 48)).heap.size ((w.alloc (.cells #[.slice (some ⟨b, off, none⟩) ws.length cw, .int .i64 smz, .int .i64 toh, .int .i64 top, .bool cyc, .int .i64 sn, .int .i64 old, .int .i64 cpz, .int .i64 sr, .slice ar rs.length cr] 30)).alloc (.cells #[.int .i64 t, .int .i64 m] 48)) W /\ (∀ i, W.cell? ⟨w.heap.size, i, none⟩ = (#[.slice (some ⟨b, off, none⟩) ws.length cw, .int .i64 smz, .int .i64 toh, .int .i64 top, .bool cyc, .int .i64 sn, .int .i64 old, .int .i64 cpz, .int .i64 sr, .slice ar rs.length cr] : Array Value)[i]?) /\ (∀ i, W.cell? ⟨w.heap.size + 1, i, none⟩ = (#[.int .i64 t, .int .i64 m] : Array Value)[i]?)) := fun W hW => ⟨hW, zg6 hW⟩
 have HS : ∀ W, Below ((w.alloc (.cells #[.slice (some ⟨b, off, none⟩) ws.length cw, .int .i64 smz, .int .i64 toh, .int .i64 top, .bool cyc, .int .i64 sn, .int .i64 old, .int .i64 cpz, .int .i64 sr, .slice ar rs.length cr] 30)).alloc (.cells #[.int .i64 t, .int .i64 m] 48)).heap.size ((w.alloc (.cells #[.slice (some ⟨b, off, none⟩) ws.length cw, .int .i64 smz, .int .i64 toh, .int .i64 top, .bool cyc, .int .i64 sn, .int .i64 old, .int .i64 cpz, .int .i64 sr, .slice ar rs.length cr] 30)).alloc (.cells #[.int .i64 t, .int .i64 m] 48)) W -> Sl W (.slice (some ⟨b, off, none⟩) ws.length cw) ws := fun W hW => hs.below (zw hW)
 have HC : ∀ W, Below ((w.alloc (.cells #[.slice (some ⟨b, off, none⟩) ws.length cw, .int .i64 smz, .int .i64 toh, .int .i64 top, .bool cyc, .int .i64 sn, .int .i64 old, .int .i64 cpz, .int .i64 sr, .slice ar rs.length cr] 30)).alloc (.cells #[.int .i64 t, .int .i64 m] 48)).heap.size ((w.alloc (.cells #[.slice (some ⟨b, off, none⟩) ws.length cw, .int .i64 smz, .int .i64 toh, .int .i64 top, .bool cyc, .int .i64 sn, .int .i64 old, .int .i64 cpz, .int .i64 sr, .slice ar rs.length cr] 30)).alloc (.cells #[.int .i64 t, .int .i64 m] 48)) W -> b < W.heap.size /\ ∀ i, i < ws.length -> W.cell? ⟨b, off + i, none⟩ = some (.int .u64 (za ws i)) := fun W hW => zg hb hc (zw hW)
 go_enter Tryz.func161, Tryz.ntmps161
 go_wp2
 have b1' := (Below.refl ((w.alloc (.cells #[.slice (some ⟨b, off, none⟩) ws.length cw, .int .i64 smz, .int .i64 toh, .int .i64 top, .bool cyc, .int .i64 sn, .int .i64 old, .int .i64 cpz, .int .i64 sr, .slice ar rs.length cr] 30)).alloc (.cells #[.int .i64 t, .int .i64 m] 48)).heap.size ((w.alloc (.cells #[.slice (some ⟨b, off, none⟩) ws.length cw, .int .i64 smz, .int .i64 toh, .int .i64 top, .bool cyc, .int .i64 sn, .int .i64 old, .int .i64 cpz, .int .i64 sr, .slice ar rs.length cr] 30)).alloc (.cells #[.int .i64 t, .int .i64 m] 48))).drew
 clear hs hc
 go_cut [5] from 28 to 33 (fun s5 wc => s5 = .string (txt ws P') /\ Below ((w.alloc (.cells #[.slice (some ⟨b, off, none⟩) ws.length cw, .int .i64 smz, .int .i64 toh, .int .i64 top, .bool cyc, .int .i64 sn, .int .i64 old, .int .i64 cpz, .int .i64 sr, .slice ar rs.length cr] 30)).alloc (.cells #[.int .i64 t, .int .i64 m] 48)).heap.size ((w.alloc (.cells #[.slice (some ⟨b, off, none⟩) ws.length cw, .int .i64 smz, .int .i64 toh, .int .i64 top, .bool cyc, .int .i64 sn, .int .i64 old, .int .i64 cpz, .int .i64 sr, .slice ar rs.length cr] 30)).alloc (.cells #[.int .i64 t, .int .i64 m] 48)) wc)
 case first =>
  go_region_held3 (fun W => Below ((w.alloc (.cells #[.slice (some ⟨b, off, none⟩) ws.length cw, .int .i64 smz, .int .i64 toh, .int .i64 top, .bool cyc, .int .i64 sn, .int .i64 old, .int .i64 cpz, .int .i64 sr, .slice ar rs.length cr] 30)).alloc (.cells #[.int .i64 t, .int .i64 m] 48)).heap.size ((w.alloc (.cells #[.slice (some ⟨b, off, none⟩) ws.length cw, .int .i64 smz, .int .i64 toh, .int .i64 top, .bool cyc, .int .i64 sn, .int .i64 old, .int .i64 cpz, .int .i64 sr, .slice ar rs.length cr] 30)).alloc (.cells #[.int .i64 t, .int .i64 m] 48)) W /\ (∀ i, W.cell? ⟨w.heap.size, i, none⟩ = (#[.slice (some ⟨b, off, none⟩) ws.length cw, .int .i64 smz, .int .i64 toh, .int .i64 top, .bool cyc, .int .i64 sn, .int .i64 old, .int .i64 cpz, .int .i64 sr, .slice ar rs.length cr] : Array Value)[i]?) /\ (∀ i, W.cell? ⟨w.heap.size + 1, i, none⟩ = (#[.int .i64 t, .int .i64 m] : Array Value)[i]?)) (first | exact KP _ (by assumption) | exact KP _ b1') (first | (go_at_call 46; refine (zb3 _ _ _ _ _ _ _ _ _ _ _ _ _ _ m P _ HP.out (HS _ (And.left (by assumption))) hn hw hP1).mono ?_; rintro e w' ⟨rfl, hb⟩; have hB3 := zc (w := ((w.alloc (.cells #[.slice (some ⟨b, off, none⟩) ws.length cw, .int .i64 smz, .int .i64 toh, .int .i64 top, .bool cyc, .int .i64 sn, .int .i64 old, .int .i64 cpz, .int .i64 sr, .slice ar rs.length cr] 30)).alloc (.cells #[.int .i64 t, .int .i64 m] 48))) (And.left (by assumption)) hb; clear hb) | (go_at_call 194; refine (zg7 _ _ _ _ _ _ _ _ _ _ _ _ _ _ _ _ P' (zaf ws P') _ HP'.out (HS _ (And.left (by assumption))) (HC _ (And.left (by assumption))).1 (HC _ (And.left (by assumption))).2 hn hw nP.out n1P n2P).mono ?_; rintro e w' ⟨rfl, hb⟩; have hB3 := zc (w := ((w.alloc (.cells #[.slice (some ⟨b, off, none⟩) ws.length cw, .int .i64 smz, .int .i64 toh, .int .i64 top, .bool cyc, .int .i64 sn, .int .i64 old, .int .i64 cpz, .int .i64 sr, .slice ar rs.length cr] 30)).alloc (.cells #[.int .i64 t, .int .i64 m] 48))) (And.left (by assumption)) hb; clear hb))
  all_goals (go_wp2_with fail; go_meet; exact ⟨rfl, And.left (by assumption)⟩)
 case rest =>
  obtain ⟨rfl, hBc⟩ := hcut
  have hsz := zie ws P'
  clear KP HS HC b1' HP HP' nP
  go_wp2
  go_loopw [6, 7] (fun u6 u7 wr => ∃ k : Nat, k <= zaf ws P' /\ u7 = .int .i64 k /\ u6 = .int .i64 (zd0 ws P' k) /\ wr = wc) (fun _ u7 _ => zaf ws P' - (intOf u7).toNat)
  case atStart => exact ⟨0, Nat.zero_le _, rfl, rfl, rfl⟩
  case round =>
   obtain ⟨k, hk, rfl, rfl, rfl⟩ := hrel
   by_cases hlt : k < zaf ws P'
   · have hlt' : (k : Int) < (zaf ws P' : Int) := by omega
     have hh := zid ws P' k
     obtain ⟨hh0, hh1⟩ := hh
     have hby := zfw ws P' k
     go_wp2
     refine ⟨⟨k + 1, by omega, by go_num, ?_, trivial⟩, by simp [intOf]; omega⟩
     rw [zj1 hh0 hh1 hby (znr ws P' k (by omega))]
     rfl
   · obtain rfl : k = zaf ws P' := by omega
     go_wp2
     go_ret
     exact ⟨rfl, zw hBc⟩
theorem zqy (b off cw : Nat) (ws : List Int) (smz toh top : Int) (cyc : Bool) (sn old cpz sr : Int) (ar : Option Addr) (cr : Nat) (rs : List (Int × Int)) (t m : Int) (w : World) (hs : Sl w (.slice (some ⟨b, off, none⟩) ws.length cw) ws) (hb : b < w.heap.size) (hc : ∀ i, i < ws.length -> w.cell? ⟨b, off + i, none⟩ = some (.int .u64 (za ws i))) (hn : ws.length <= 1048576) (hw : zi ws) (hv : vOk t m = true) (h0 : t ≠ 0) (k1 : zdq ws t m) :
 Calls Tryz.prog 161 #[(.agg #[.slice (some ⟨b, off, none⟩) ws.length cw, .int .i64 smz, .int .i64 toh, .int .i64 top, .bool cyc, .int .i64 sn, .int .i64 old, .int .i64 cpz, .int .i64 sr, .slice ar rs.length cr]), .agg #[.int .i64 t, .int .i64 m]] w fun e w' => e = .returned (.int .i64 (za8 ws t m)) /\ Below w.heap.size w w' := by
 simp only [vOk, decide_eq_true_eq] at hv
 by_cases h1 : t = 1
 · have e : za8 ws t m = m := by simp [za8, h1]
   rw [e]
   exact zmz _ _ _ _ _ _ _ _ _ _ _ _ _ _ t m w (by simpa using h1)
 · by_cases h2 : t = 2
   · have e : za8 ws t m = m % 18446744073709551616 % 1000003 := by simp [za8, h2]
     rw [e]
     exact zpd _ _ _ _ _ _ _ _ _ _ _ _ _ _ t m w (by simpa using h1) (by simpa using h2)
   · by_cases h7 : t = 7
     · have e : za8 ws t m = m + 7 := by simp [za8, h7]
       rw [e]
       exact zpe _ _ _ _ _ _ _ _ _ _ _ _ _ _ t m w (by simpa using h1) (by simpa using h2) (by simpa using h7) (by omega) (by omega)
     · have hr : isR t = true := by simp only [isR, decide_eq_true_eq]; omega
       obtain ⟨a1, a2, a3, a4⟩ := k1.1 hr
       have tP := k1.2
       obtain ⟨P, rfl⟩ := Int.eq_ofNat_of_zero_le a1
       simp only [Int.toNat_natCast] at a3 a4 tP
       obtain ⟨P', hP'⟩ := Int.eq_ofNat_of_zero_le a3
       by_cases h3 : t = 3
       · have e : za8 ws t P = zd0 ws P' (zaf ws P') := by simp [za8, h3, hP']
         rw [e]
         have tP := tP h3
         rw [hP', Int.toNat_natCast] at tP
         exact zm1 b off cw ws smz toh top cyc sn old cpz sr ar cr rs t P P P' w (by simpa using h1) (by simpa using h2) (by simpa using h7) (by simpa using h3) hs hb hc hn hw rfl (by omega) hP' tP
       · have e : za8 ws t P = rdN (za ws P') := by simp [za8, h1, h2, h7, h3, hP']
         rw [e]
         exact zm0 _ _ _ _ _ _ _ _ _ _ _ _ _ _ t P P P' w (by simpa using h1) (by simpa using h2) (by simpa using h7) (by simpa using h3) hs hn hw rfl (by omega) hP' (by omega)
theorem zle {ws : List Int} {t m : Int} (hv : vOk t m = true) (h0 : t ≠ 0) : 0 <= za8 ws t m /\ za8 ws t m <= 1000000000 := by
 simp only [vOk, decide_eq_true_eq] at hv
 unfold za8
 split
 · omega
 · split
   · omega
   · split
     · omega
     · split
       · have := zid ws (zh ws m.toNat).toNat (zaf ws (zh ws m.toNat).toNat); omega
       · unfold rdN
         split
         · rename_i h
           unfold zac at h
           rw [zeb] at h
           unfold HOk at h
           omega
         · omega
def kT (ws : List Int) (B i : Nat) : Int := rvT ws (B + 1 + 4 * i)
def kN (ws : List Int) (B i : Nat) : Int := rvN ws (B + 1 + 4 * i)
def zcd (ws : List Int) (B n : Nat) (t m : Int) : Nat -> Nat -> Int × Bool
 | 0, _ => (-1, false)
 | k + 1, i => if kT ws B i = 0 then ((i : Int), false) else if zb6 ws (kT ws B i) (kN ws B i) t m = true then ((i : Int), true) else zcd ws B n t m k ((i + 1) % n)
def zdf (ws : List Int) (B n : Nat) (t m : Int) : Int × Bool := zcd ws B n t m n ((za8 ws t m).toNat % n)
def zfj (ws : List Int) (B n : Nat) : Prop := B + 4 * n < ws.length /\ ∀ i, i < n -> zdq ws (kT ws B i) (kN ws B i)
theorem zgo {h : Int} (h0 : 0 <= h) (n : Nat) : h % (n : Int) = ((h.toNat % n : Nat) : Int) := by
 rw [Int.natCast_emod, Int.toNat_of_nonneg h0]
theorem zmy (aw : Option Addr) (cw : Nat) (ws : List Int) (smz toh top : Int) (cyc : Bool) (sn old cpz sr : Int) (ar : Option Addr) (cr : Nat) (rs : List (Int × Int)) (x n t m : Int) (w : World) (h : (t == 0) = true) :
 Calls Tryz.prog 130 #[.agg #[.slice aw ws.length cw, .int .i64 smz, .int .i64 toh, .int .i64 top, .bool cyc, .int .i64 sn, .int .i64 old, .int .i64 cpz, .int .i64 sr, .slice ar rs.length cr], .int .i64 x, .int .i64 n, .agg #[.int .i64 t, .int .i64 m]] w fun e w' => e = .returned (.tuple #[.int .i64 (-1), .bool false]) /\ Below w.heap.size w w' := by
 by_cases hn : n = 0
 · have e : (n == 0) = true := by simpa using hn
   clear hn
   go_enter Tryz.func130, Tryz.ntmps130
   go_wp2
   go_ret2
   exact ⟨rfl, zw (Below.refl _ _)⟩
 · have e : (n == 0) = false := by simpa using hn
   clear hn
   go_enter Tryz.func130, Tryz.ntmps130
   go_wp2
   go_ret2
   exact ⟨rfl, zw (Below.refl _ _)⟩
set_option maxHeartbeats 2000000 in
theorem zqx (b off cw : Nat) (ws : List Int) (smz toh top : Int) (cyc : Bool) (sn old cpz sr : Int) (ar : Option Addr) (cr : Nat) (rs : List (Int × Int)) (x t m : Int) (B n : Nat) (w : World) (hs : Sl w (.slice (some ⟨b, off, none⟩) ws.length cw) ws) (hb : b < w.heap.size) (hc : ∀ i, i < ws.length -> w.cell? ⟨b, off + i, none⟩ = some (.int .u64 (za ws i))) (hn : ws.length <= 1048576) (hw : zi ws) (hx : x = B) (hn0 : 0 < n) (hn1 : n <= 64) (hK : zfj ws B n) (h0 : (t == 0) = false) (hv : vOk t m = true) (k1 : zdq ws t m) :
 Calls Tryz.prog 130 #[(.agg #[.slice (some ⟨b, off, none⟩) ws.length cw, .int .i64 smz, .int .i64 toh, .int .i64 top, .bool cyc, .int .i64 sn, .int .i64 old, .int .i64 cpz, .int .i64 sr, .slice ar rs.length cr]), .int .i64 x, .int .i64 n, .agg #[.int .i64 t, .int .i64 m]] w fun e w' => e = .returned (.tuple #[.int .i64 (zdf ws B n t m).1, .bool (zdf ws B n t m).2]) /\ Below w.heap.size w w' := by
 have ht0 : t ≠ 0 := by simpa using h0
 obtain ⟨hh0, hh1⟩ := zle (ws := ws) hv ht0
 have HX : Hid (x = (B : Int)) := hx
 have nz : ((n : Int) == 0) = false := by simp; omega
 have nz' : ¬ ((n : Int) = 0) := by omega
 have n1' : (n : Int) <= 64 := by omega
 have HV : Hid (vOk t m = true) := hv
 have HK1 : Hid (zdq ws t m) := k1
 have HKS : Hid (zfj ws B n) := hK
 have HT0 : Hid (t ≠ 0) := ht0
 obtain ⟨i0, hi0⟩ : ∃ i0 : Nat, i0 = (za8 ws t m).toNat % n := ⟨_, rfl⟩
 have hmod : (za8 ws t m).tmod (n : Int) = (i0 : Int) := by rw [Int.tmod_eq_emod_of_nonneg hh0, hi0]; exact zgo hh0 n
 have hi0n : i0 < n := by rw [hi0]; exact Nat.mod_lt _ hn0
 have HF : Hid (zdf ws B n t m = zcd ws B n t m n i0) := by show zdf ws B n t m = zcd ws B n t m n i0; rw [hi0]; rfl
 obtain ⟨H, hH⟩ : ∃ H, H = za8 ws t m := ⟨_, rfl⟩
 have HH : Hid (za8 ws t m = H) := hH.symm
 rw [<- hH] at hmod hh0 hh1
 clear hx hv k1 hK ht0 hi0 hH
 go_enter Tryz.func130, Tryz.ntmps130
 go_wp2_with fail
 refine (zqy _ _ _ _ _ _ _ _ _ _ _ _ _ _ _ t m _ (zam (zam hs _) _) (zcv (zcv hb)) (fun i hi => zt (zcv hb) (zt hb (hc i hi))) hn hw HV.out HT0.out HK1.out).mono ?_
 rw [HH.out]
 rintro e w1 ⟨rfl, b1⟩
 obtain ⟨c1, c2⟩ := zg6 b1
 have z1 := zd5 b1
 have B1 := zw b1
 have S1 := hs.below B1
 obtain ⟨lb1, C1⟩ := zg hb hc B1
 clear b1 hs hc
 go_wp2
 clear hmod
 go_loopw [10, 11] (fun u10 u11 wr => ∃ k i : Nat, k <= n /\ i < n /\ u11 = .int .i64 k /\ u10 = .int .i64 i /\ zcd ws B n t m n i0 = zcd ws B n t m (n - k) i /\ Below w1.heap.size w1 wr) (fun _ u11 _ => n - (intOf u11).toNat)
 case atStart => exact ⟨0, i0, Nat.zero_le _, hi0n, rfl, rfl, rfl, Below.refl _ _⟩
 case round =>
  obtain ⟨k, i, hk, hi, rfl, rfl, hF, hB⟩ := hrel
  have HF2 : Hid (zcd ws B n t m n i0 = zcd ws B n t m (n - k) i) := hF
  clear hF
  have lwr := hB.size
  by_cases hlt : k < n
  · have hlt' : (k : Int) < (n : Int) := by omega
    have hi' : (i : Int) < (n : Int) := by omega
    obtain ⟨j, hj⟩ : ∃ j : Nat, j = (i + 1) % n := ⟨_, rfl⟩
    have hjn : j < n := by rw [hj]; exact Nat.mod_lt _ hn0
    have hjm : ((i : Int) + 1).tmod (n : Int) = (j : Int) := by rw [Int.tmod_eq_emod_of_nonneg (by omega), hj]; exact zgo (h := (i : Int) + 1) (by omega) n
    have hst : Hid (zcd ws B n t m (n - k) i = if kT ws B i = 0 then ((i : Int), false) else if zb6 ws (kT ws B i) (kN ws B i) t m = true then ((i : Int), true) else zcd ws B n t m (n - (k + 1)) j) := by
     show zcd ws B n t m (n - k) i = _
     rw [hj, show n - k = (n - (k + 1)) + 1 by omega]; rfl
    clear hj
    have KA := ze c1 hB (by omega)
    have KB := ze c2 hB (by omega)
    have SR := S1.below hB
    obtain ⟨lbr, CR⟩ := zg lb1 C1 hB
    have hky : B + 1 + 4 * i + 1 < ws.length := by have := HKS.out.1; omega
    have HKi : Hid (zdq ws (kT ws B i) (kN ws B i)) := HKS.out.2 i hi
    go_upto_region 8 with (go_at_call 129; refine (zkz _ _ _ _ _ _ _ _ _ _ _ _ _ _ _ _ B i _ HX.out rfl SR hn hw hky).mono ?_; rintro e w2 ⟨rfl, b2⟩)
    have e1 : rvT ws (B + 1 + 4 * i) = kT ws B i := rfl
    have e2 : rvN ws (B + 1 + 4 * i) = kN ws B i := rfl
    rw [e1, e2]
    clear e1 e2
    generalize kT ws B i = tk at *
    generalize kN ws B i = mk at *
    have l0 : w.heap.size < wr.heap.size := by omega
    have l1 : w.heap.size + 1 < wr.heap.size := by omega
    have KA2 := ze KA b2 l0
    have KB2 := ze KB b2 l1
    have l0' : w.heap.size < w2.heap.size := Nat.lt_of_lt_of_le l0 b2.size
    have l1' : w.heap.size + 1 < w2.heap.size := Nat.lt_of_lt_of_le l1 b2.size
    have hB2 := zc hB b2
    have hB3 : Below w1.heap.size w1 (w2.alloc (.cells #[.int .i64 tk, .int .i64 mk] 48)) := hB2.alloc hB2.size _
    have B3 := zc B1 hB3
    have SR2 := S1.below hB3
    obtain ⟨lb3, C3⟩ := zg lb1 C1 hB3
    clear KA KB c1 c2 SR CR lbr hb lb1
    by_cases hz : tk = 0
    · have e0 : (tk == 0) = true := by simpa using hz
      have hst := hst.out
      rw [if_pos hz] at hst
      have hend := HF.out.trans (HF2.out.trans hst)
      have HE : Hid (zdf ws B n t m = ((i : Int), false)) := hend
      clear hst hend hz S1 C1 C3
      go_wp2
      go_ret2
      rw [HE.out]
      exact ⟨rfl, B3⟩
    · have e0 : (tk == 0) = false := by simpa using hz
      have hst := hst.out
      rw [if_neg hz] at hst
      clear hz
      by_cases hsm : zb6 ws tk mk t m = true
      · rw [if_pos hsm] at hst
        have HE : Hid (zdf ws B n t m = ((i : Int), true)) := HF.out.trans (HF2.out.trans hst)
        clear hst
        go_wp2_with (go_at_call 162; refine (zj2 _ _ _ _ _ _ _ _ _ _ _ _ _ _ _ tk mk t m _ SR2 lb3 C3 hn hw HKi.out HK1.out).mono ?_; rw [hsm]; rintro e w4 ⟨rfl, b4⟩)
        go_ret2
        rw [HE.out]
        exact ⟨rfl, zc B3 b4⟩
      · rw [if_neg hsm] at hst
        rw [Bool.not_eq_true] at hsm
        have HE : Hid (zcd ws B n t m n i0 = zcd ws B n t m (n - (k + 1)) j) := HF2.out.trans hst
        clear hst
        go_wp2_with (go_at_call 162; refine (zj2 _ _ _ _ _ _ _ _ _ _ _ _ _ _ _ tk mk t m _ SR2 lb3 C3 hn hw HKi.out HK1.out).mono ?_; rw [hsm]; rintro e w4 ⟨rfl, b4⟩)
        first
         | (refine ⟨⟨k + 1, j, hlt, hjn, by go_num, rfl, HE.out, zc hB3 b4⟩, by simp [intOf]; omega⟩)
         | (go_roundw
            case rel => exact ⟨k + 1, j, hlt, hjn, by go_num, rfl, HE.out, zc hB3 b4⟩
            case measure => simp [intOf]; omega)
  · obtain rfl : k = n := by omega
    have HE : Hid (zdf ws B k t m = (-1, false)) := HF.out.trans (HF2.out.trans (by rw [Nat.sub_self]; rfl))
    go_wp2
    go_ret2
    rw [HE.out]
    exact ⟨rfl, zc B1 hB⟩
end Go.Proofs.YtmckcnmlhgpnhaaGreat
