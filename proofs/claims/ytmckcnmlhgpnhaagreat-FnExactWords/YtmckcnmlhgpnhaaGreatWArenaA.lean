/- - -/
import Derived.Test.YtmckcnmlhgpnhaaGreatWGetA
namespace Go.Proofs.YtmckcnmlhgpnhaaGreat
set_option maxRecDepth 20000
open Go.RowKit
set_option linter.unusedSimpArgs false
set_option linter.unusedVariables false
def za (ws : List Int) (p : Nat) : Int := ws.getD p 0
theorem ze0 {w : World} {o : Obj} {b i : Nat} {v : Value} (hb : b < w.heap.size) (h : w.cell? ⟨b, i, none⟩ = some v) : (w.alloc o).cell? ⟨b, i, none⟩ = some v := by
 rw [World.cell?_alloc_lt w o ⟨b, i, none⟩ hb]; exact h
theorem zc5 (aw : Option Addr) (cw : Nat) (ws : List Int) (smz toh top : Int) (cyc : Bool) (sn old cpz sr : Int) (ar : Option Addr) (cr : Nat) (rs : List (Int × Int)) (h : Int) (w : World) (h0 : 0 <= h) (h1 : h <= 1) (s0 : 256 <= smz) (s1 : smz <= 4000) :
 Calls Tryz.prog 57 #[.agg #[.slice aw ws.length cw, .int .i64 smz, .int .i64 toh, .int .i64 top, .bool cyc, .int .i64 sn, .int .i64 old, .int .i64 cpz, .int .i64 sr, .slice ar rs.length cr], .int .i64 h] w fun e w' => e = .returned (.int .i64 (h * smz + 1)) /\ Below w.heap.size w w' := by
 have m0 : 0 <= h * smz := Int.mul_nonneg h0 (by omega)
 have m1 : h * smz <= 4000 := by
  have : h = 0 \/ h = 1 := by omega
  rcases this with rfl | rfl <;> omega
 go_enter Tryz.func57, Tryz.ntmps57
 go_wp2
 go_ret
 exact ⟨rfl, (Below.refl _ _).alloc (Nat.le_refl _) _⟩
theorem zfe (aw : Option Addr) (cw : Nat) (ws : List Int) (smz toh top : Int) (cyc : Bool) (sn old cpz sr : Int) (ar : Option Addr) (cr : Nat) (rs : List (Int × Int)) (w : World) (h0 : 0 <= toh) (h1 : toh <= 1) (s0 : 256 <= smz) (s1 : smz <= 4000) :
 Calls Tryz.prog 124 #[.agg #[.slice aw ws.length cw, .int .i64 smz, .int .i64 toh, .int .i64 top, .bool cyc, .int .i64 sn, .int .i64 old, .int .i64 cpz, .int .i64 sr, .slice ar rs.length cr]] w fun e w' => e = .returned (.int .i64 ((toh + 1) * smz)) /\ Below w.heap.size w w' := by
 have m0 : 0 <= (toh + 1) * smz := Int.mul_nonneg (by omega) (by omega)
 have m1 : (toh + 1) * smz <= 8000 := by
  have : toh = 0 \/ toh = 1 := by omega
  rcases this with rfl | rfl <;> omega
 go_enter Tryz.func124, Tryz.ntmps124
 go_wp2
 go_ret
 exact ⟨rfl, (Below.refl _ _).alloc (Nat.le_refl _) _⟩
theorem zcx {aw : Option Addr} {cw : Nat} {ws : List Int} {w : World} (hs : Sl w (.slice aw ws.length cw) ws) {k : Nat} (h : k < ws.length) :
 ∃ b off, aw = some ⟨b, off, none⟩ /\ b < w.heap.size /\ ∀ i, i < ws.length -> ∀ o : Obj, (w.alloc o).cell? ⟨b, off + i, none⟩ = some (.int .u64 (za ws i)) := by
 obtain ⟨a', c', he, hs⟩ := hs
 simp only [Value.slice.injEq] at he
 obtain ⟨rfl, _, _⟩ := he
 rcases hs with rfl | ⟨b, off, rfl, hl, hc⟩
 · simp at h
 · exact ⟨b, off, rfl, hl, fun i hi o => ze0 hl (hc i hi)⟩
theorem zac {ws : List Int} (h : zg ws) (p : Nat) : 0 <= za ws p /\ za ws p < 18446744073709551616 := by
 unfold za
 by_cases hi : p < ws.length
 · simp only [List.getD_eq_getElem?_getD, List.getElem?_eq_getElem hi, Option.getD_some]
   exact h _ (List.getElem_mem hi)
 · simp [List.getElem?_eq_none (Nat.le_of_not_lt hi)]
theorem zco (aw : Option Addr) (cw : Nat) (ws : List Int) (smz toh top : Int) (cyc : Bool) (sn old cpz sr : Int) (ar : Option Addr) (cr : Nat) (rs : List (Int × Int)) (h F : Int) (w : World) (h0 : 0 <= h) (h1 : h <= 1) (s0 : 256 <= smz) (s1 : smz <= 4000) (hF : h * smz + 1 = F) :
 Calls Tryz.prog 57 #[.agg #[.slice aw ws.length cw, .int .i64 smz, .int .i64 toh, .int .i64 top, .bool cyc, .int .i64 sn, .int .i64 old, .int .i64 cpz, .int .i64 sr, .slice ar rs.length cr], .int .i64 h] w fun e w' => e = .returned (.int .i64 F) /\ Below w.heap.size w w' := by
 subst hF
 exact zc5 aw cw ws smz toh top cyc sn old cpz sr ar cr rs h w h0 h1 s0 s1
theorem zmk (aw : Option Addr) (cw : Nat) (ws : List Int) (smz toh top : Int) (cyc : Bool) (sn old cpz sr : Int) (ar : Option Addr) (cr : Nat) (rs : List (Int × Int)) (E : Int) (w : World) (h0 : 0 <= toh) (h1 : toh <= 1) (s0 : 256 <= smz) (s1 : smz <= 4000) (hE : (toh + 1) * smz = E) :
 Calls Tryz.prog 124 #[.agg #[.slice aw ws.length cw, .int .i64 smz, .int .i64 toh, .int .i64 top, .bool cyc, .int .i64 sn, .int .i64 old, .int .i64 cpz, .int .i64 sr, .slice ar rs.length cr]] w fun e w' => e = .returned (.int .i64 E) /\ Below w.heap.size w w' := by
 subst hE
 exact zfe aw cw ws smz toh top cyc sn old cpz sr ar cr rs w h0 h1 s0 s1
theorem zbx {aw : Option Addr} {cw : Nat} {ws : List Int} {smz toh top : Int} {cyc : Bool} {sn old cpz sr : Int} {ar : Option Addr} {cr : Nat} {rs : List (Int × Int)} {w w' : World} (hB : Below (w.alloc (.cells #[.slice aw ws.length cw, .int .i64 smz, .int .i64 toh, .int .i64 top, .bool cyc, .int .i64 sn, .int .i64 old, .int .i64 cpz, .int .i64 sr, .slice ar rs.length cr] 30)).heap.size (w.alloc (.cells #[.slice aw ws.length cw, .int .i64 smz, .int .i64 toh, .int .i64 top, .bool cyc, .int .i64 sn, .int .i64 old, .int .i64 cpz, .int .i64 sr, .slice ar rs.length cr] 30)) w') :
 w'.cell? ⟨w.heap.size, 0, none⟩ = some (.slice aw ws.length cw) /\ w'.cell? ⟨w.heap.size, 1, none⟩ = some (.int .i64 smz) /\ w'.cell? ⟨w.heap.size, 2, none⟩ = some (.int .i64 toh) /\ w'.cell? ⟨w.heap.size, 3, none⟩ = some (.int .i64 top) /\ w'.cell? ⟨w.heap.size, 4, none⟩ = some (.bool cyc) /\ w'.cell? ⟨w.heap.size, 5, none⟩ = some (.int .i64 sn) /\ w'.cell? ⟨w.heap.size, 6, none⟩ = some (.int .i64 old) /\ w'.cell? ⟨w.heap.size, 7, none⟩ = some (.int .i64 cpz) /\ w'.cell? ⟨w.heap.size, 8, none⟩ = some (.int .i64 sr) /\ w'.cell? ⟨w.heap.size, 9, none⟩ = some (.slice ar rs.length cr) := by
 have h : ∀ i, w'.cell? ⟨w.heap.size, i, none⟩ = (w.alloc (.cells #[.slice aw ws.length cw, .int .i64 smz, .int .i64 toh, .int .i64 top, .bool cyc, .int .i64 sn, .int .i64 old, .int .i64 cpz, .int .i64 sr, .slice ar rs.length cr] 30)).cell? ⟨w.heap.size, i, none⟩ := fun i => hB.cell (p := ⟨w.heap.size, i, none⟩) (by simp)
 refine ⟨?_, ?_, ?_, ?_, ?_, ?_, ?_, ?_, ?_, ?_⟩ <;> rw [h] <;> simp [go_sem]
theorem zjq (aw : Option Addr) (cw : Nat) (ws : List Int) (smz toh top : Int) (cyc : Bool) (sn old cpz sr : Int) (ar : Option Addr) (cr : Nat) (rs : List (Int × Int)) (p i : Nat) (w : World) (hs : Sl w (.slice aw ws.length cw) ws) (hn : ws.length <= 1048576) (h : p + i < ws.length) :
 Calls Tryz.prog 126 #[.agg #[.slice aw ws.length cw, .int .i64 smz, .int .i64 toh, .int .i64 top, .bool cyc, .int .i64 sn, .int .i64 old, .int .i64 cpz, .int .i64 sr, .slice ar rs.length cr], .int .i64 p, .int .i64 i] w fun e w' => e = .returned (.int .i64 (wrap64 (za ws (p + i)))) /\ Below w.heap.size w w' := by
 obtain ⟨b, off, rfl, hl, hc⟩ := zcx hs h
 have q := hc (p + i) h
 have h1 : (p : Int) + (i : Int) < (ws.length : Int) := by omega
 have h2 : (ws.length : Int) <= 1048576 := by omega
 clear hc
 go_enter Tryz.func126, Tryz.ntmps126
 go_wp2
 go_ret
 exact ⟨rfl, (Below.refl _ _).alloc (Nat.le_refl _) _⟩
def zai (x : Int) : Bool := hOk (x % 16) (x / 16 % 65536) (x / 1048576)
def rdK (x : Int) : Int := if zai x = true then x % 16 else 0
def rdS (x : Int) : Int := if zai x = true then x / 16 % 65536 else 0
def rdN (x : Int) : Int := if zai x = true then x / 1048576 else 0
theorem zbg (x : Int) (w : World) (h0 : 0 <= x) (h1 : x < 18446744073709551616) :
 Calls Tryz.prog 98 #[.int .u64 x] w fun e w' => e = .returned (.tuple #[.agg #[.int .i64 (rdK x), .int .i64 (rdS x), .int .i64 (rdN x)], .bool (zai x)]) /\ Below w.heap.size w w' := by
 by_cases h : zai x = true
 · have := zjf x w h0 h1 h
   simpa only [rdK, rdS, rdN, h, if_true] using this
 · have h' : zai x = false := by rwa [Bool.not_eq_true] at h
   have := zjt x w h0 h1 h'
   simpa [rdK, rdS, rdN, h'] using this
def zca (x : Int) : Bool := decide (9223372036854775808 <= x /\ x <= 9223372039002259455)
def fwP (x : Int) : Int := if zca x = true then x - 9223372036854775808 else 0
theorem zbp (x : Int) (w : World) (h0 : 0 <= x) (h1 : x < 18446744073709551616) :
 Calls Tryz.prog 100 #[.int .u64 x] w fun e w' => e = .returned (.tuple #[.int .i64 (fwP x), .bool (zca x)]) /\ w' = w := by
 by_cases h : 9223372036854775808 <= x /\ x <= 9223372039002259455
 · have h' : zca x = true := decide_eq_true h
   have := zim x w h.1 h.2
   simpa only [fwP, h', if_true] using this
 · have h' : zca x = false := decide_eq_false h
   by_cases g : x < 9223372036854775808
   · have := zin x w h0 g
     simpa [fwP, h'] using this
   · have := zio x w (by omega) h1
     simpa [fwP, h'] using this
theorem zeh {w w' : World} {o o2 : Obj} (hb : Below ((w.alloc o).alloc o2).heap.size ((w.alloc o).alloc o2) w') : w.heap.size + 1 < w'.heap.size := by
 have h := hb.size
 simp at h
 omega
theorem zae {w w' : World} {o o2 : Obj} (hb : Below ((w.alloc o).alloc o2).heap.size ((w.alloc o).alloc o2) w') : Below w.heap.size w w' :=
 (((Below.refl _ _).alloc (Nat.le_refl _) _).alloc (by simp) _).trans (hb.mono (by simp; omega))
theorem zqp (aw : Option Addr) (cw : Nat) (ws : List Int) (smz toh top : Int) (cyc : Bool) (sn old cpz sr : Int) (ar : Option Addr) (cr : Nat) (rs : List (Int × Int)) (p : Nat) (w : World) (hs : Sl w (.slice aw ws.length cw) ws) (hn : ws.length <= 1048576) (hw : zg ws) (h : p < ws.length) :
 Calls Tryz.prog 43 #[.agg #[.slice aw ws.length cw, .int .i64 smz, .int .i64 toh, .int .i64 top, .bool cyc, .int .i64 sn, .int .i64 old, .int .i64 cpz, .int .i64 sr, .slice ar rs.length cr], .int .i64 p] w fun e w' => e = .returned (.agg #[.int .i64 (rdK (za ws p)), .int .i64 (rdS (za ws p)), .int .i64 (rdN (za ws p))]) /\ Below w.heap.size w w' := by
 obtain ⟨b, off, rfl, hl, hc⟩ := zcx hs h
 have q := hc p h
 have q' := fun o o2 => ze0 (o := o2) (Nat.lt_of_lt_of_le hl (show w.heap.size <= (w.alloc o).heap.size by simp)) (q o)
 have h1 : (p : Int) < (ws.length : Int) := by omega
 have hx := zac hw p
 clear hc q
 go_enter Tryz.func43, Tryz.ntmps43
 go_wp2_with fail
 refine (zbg _ _ hx.1 hx.2).mono ?_
 rintro e w1 ⟨rfl, b1⟩
 obtain ⟨c1, f1⟩ := zo b1
 have z1 := zeh b1
 have B1 := zae b1
 go_wp2
 have p0 : (w1.cell? ⟨w.heap.size + 1, 0, none⟩).isSome = true := by rw [c1 _ _ (by simp)]; simp [go_sem]
 have p1 : (w1.cell? ⟨w.heap.size + 1, 1, none⟩).isSome = true := by rw [c1 _ _ (by simp)]; simp [go_sem]
 have p2 : (w1.cell? ⟨w.heap.size + 1, 2, none⟩).isSome = true := by rw [c1 _ _ (by simp)]; simp [go_sem]
 have hne : w.heap.size + 1 ≠ w1.heap.size := by omega
 refine bodyPost_ret (v := .agg #[.int .i64 (rdK (za ws p)), .int .i64 (rdS (za ws p)), .int .i64 (rdN (za ws p))]) (by simp [results, Tryz.results43, go_sem, p0, p1, p2, hne, World.cell?_alloc_lt, z1]) rfl ⟨rfl, ?_⟩
 have hle : w.heap.size <= w.heap.size + 1 := Nat.le_succ _
 refine Below.alloc ?_ (by simpa using B1.size) _
 exact ((B1.setCell (p := ⟨w.heap.size + 1, 0, none⟩) hle _).setCell (p := ⟨w.heap.size + 1, 1, none⟩) hle _).setCell (p := ⟨w.heap.size + 1, 2, none⟩) hle _
def zi (ws : List Int) (p : Nat) : Int := if zca (za ws p) = true then fwP (za ws p) else p
theorem zom (aw : Option Addr) (cw : Nat) (ws : List Int) (smz toh top : Int) (cyc : Bool) (sn old cpz sr : Int) (ar : Option Addr) (cr : Nat) (rs : List (Int × Int)) (p : Nat) (w : World) (hs : Sl w (.slice aw ws.length cw) ws) (hn : ws.length <= 1048576) (hw : zg ws) (h : p < ws.length) :
 Calls Tryz.prog 46 #[.agg #[.slice aw ws.length cw, .int .i64 smz, .int .i64 toh, .int .i64 top, .bool cyc, .int .i64 sn, .int .i64 old, .int .i64 cpz, .int .i64 sr, .slice ar rs.length cr], .int .i64 p] w fun e w' => e = .returned (.int .i64 (zi ws p)) /\ Below w.heap.size w w' := by
 obtain ⟨b, off, rfl, hl, hc⟩ := zcx hs h
 have q := hc p h
 have h1 : (p : Int) < (ws.length : Int) := by omega
 have hx := zac hw p
 clear hc
 go_enter Tryz.func46, Tryz.ntmps46
 go_wp2_with fail
 refine (zbp _ _ hx.1 hx.2).mono ?_
 rintro e w1 ⟨rfl, rfl⟩
 by_cases hf : zca (za ws p) = true
 · go_wp2
   go_ret
   exact ⟨zby (by simp [zi, hf]), (Below.refl _ _).alloc (Nat.le_refl _) _⟩
 · rw [Bool.not_eq_true] at hf
   go_wp2
   go_ret
   exact ⟨zby (by simp [zi, hf]), (Below.refl _ _).alloc (Nat.le_refl _) _⟩
end Go.Proofs.YtmckcnmlhgpnhaaGreat
