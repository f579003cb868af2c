/- - -/
import Derived.Test.YthdnpafigkkkkaaGreatDSliceA
import Derived.Test.YthdnpafigkkkkaaGreatDReadA
namespace Go.Proofs.YthdnpafigkkkkaaGreat
set_option maxRecDepth 20000
open Go.RowKit
set_option linter.unusedSimpArgs false
set_option linter.unusedVariables false
def za (ws : List Int) (p : Nat) : Int := ws.getD p 0
theorem zei {w : World} {o : Obj} {b i : Nat} {v : Value} (hb : b < w.heap.size) (h : w.cell? ⟨b, i, none⟩ = some v) : (w.alloc o).cell? ⟨b, i, none⟩ = some v := by
 rw [World.cell?_alloc_lt w o ⟨b, i, none⟩ hb]; exact h
theorem zcv (aw : Option Addr) (cw : Nat) (ws : List Int) (sm toh top : Int) (cyc : Bool) (sn old cp sr : Int) (ar : Option Addr) (cr : Nat) (rs : List (Int × Int)) (h : Int) (w : World) (h0 : 0 <= h) (h1 : h <= 1) (s0 : 256 <= sm) (s1 : sm <= 4000) :
 Calls Tryz.prog 65 #[.agg #[.slice aw ws.length cw, .int .i64 sm, .int .i64 toh, .int .i64 top, .bool cyc, .int .i64 sn, .int .i64 old, .int .i64 cp, .int .i64 sr, .slice ar rs.length cr], .int .i64 h] w fun e w' => e = .returned (.int .i64 (h * sm + 1)) /\ Below w.heap.size w w' := by
 have m0 : 0 <= h * sm := Int.mul_nonneg h0 (by omega)
 have m1 : h * sm <= 4000 := by
  have : h = 0 \/ h = 1 := by omega
  rcases this with rfl | rfl <;> omega
 go_enter Tryz.func65, Tryz.ntmps65
 go_wp2
 go_ret
 exact ⟨rfl, (Below.refl _ _).alloc (Nat.le_refl _) _⟩
theorem zet (aw : Option Addr) (cw : Nat) (ws : List Int) (sm toh top : Int) (cyc : Bool) (sn old cp sr : Int) (ar : Option Addr) (cr : Nat) (rs : List (Int × Int)) (w : World) (h0 : 0 <= toh) (h1 : toh <= 1) (s0 : 256 <= sm) (s1 : sm <= 4000) :
 Calls Tryz.prog 66 #[.agg #[.slice aw ws.length cw, .int .i64 sm, .int .i64 toh, .int .i64 top, .bool cyc, .int .i64 sn, .int .i64 old, .int .i64 cp, .int .i64 sr, .slice ar rs.length cr]] w fun e w' => e = .returned (.int .i64 ((toh + 1) * sm)) /\ Below w.heap.size w w' := by
 have m0 : 0 <= (toh + 1) * sm := Int.mul_nonneg (by omega) (by omega)
 have m1 : (toh + 1) * sm <= 8000 := by
  have : toh = 0 \/ toh = 1 := by omega
  rcases this with rfl | rfl <;> omega
 go_enter Tryz.func66, Tryz.ntmps66
 go_wp2
 go_ret
 exact ⟨rfl, (Below.refl _ _).alloc (Nat.le_refl _) _⟩
theorem zcl {aw : Option Addr} {cw : Nat} {ws : List Int} {w : World} (hs : Sl w (.slice aw ws.length cw) ws) {k : Nat} (h : k < ws.length) :
 ∃ b off, aw = some ⟨b, off, none⟩ /\ b < w.heap.size /\ ∀ i, i < ws.length -> ∀ o : Obj, (w.alloc o).cell? ⟨b, off + i, none⟩ = some (.int .u64 (za ws i)) := by
 obtain ⟨a', c', he, hs⟩ := hs
 simp only [Value.slice.injEq] at he
 obtain ⟨rfl, _, _⟩ := he
 rcases hs with rfl | ⟨b, off, rfl, hl, hc⟩
 · simp at h
 · exact ⟨b, off, rfl, hl, fun i hi o => zei hl (hc i hi)⟩
theorem zx {ws : List Int} (h : zg ws) (p : Nat) : 0 <= za ws p /\ za ws p < 18446744073709551616 := by
 unfold za
 by_cases hi : p < ws.length
 · simp only [List.getD_eq_getElem?_getD, List.getElem?_eq_getElem hi, Option.getD_some]
   exact h _ (List.getElem_mem hi)
 · simp [List.getElem?_eq_none (Nat.le_of_not_lt hi)]
theorem zcs (aw : Option Addr) (cw : Nat) (ws : List Int) (sm toh top : Int) (cyc : Bool) (sn old cp sr : Int) (ar : Option Addr) (cr : Nat) (rs : List (Int × Int)) (h F : Int) (w : World) (h0 : 0 <= h) (h1 : h <= 1) (s0 : 256 <= sm) (s1 : sm <= 4000) (hF : h * sm + 1 = F) :
 Calls Tryz.prog 65 #[.agg #[.slice aw ws.length cw, .int .i64 sm, .int .i64 toh, .int .i64 top, .bool cyc, .int .i64 sn, .int .i64 old, .int .i64 cp, .int .i64 sr, .slice ar rs.length cr], .int .i64 h] w fun e w' => e = .returned (.int .i64 F) /\ Below w.heap.size w w' := by
 subst hF
 exact zcv aw cw ws sm toh top cyc sn old cp sr ar cr rs h w h0 h1 s0 s1
theorem zla (aw : Option Addr) (cw : Nat) (ws : List Int) (sm toh top : Int) (cyc : Bool) (sn old cp sr : Int) (ar : Option Addr) (cr : Nat) (rs : List (Int × Int)) (E : Int) (w : World) (h0 : 0 <= toh) (h1 : toh <= 1) (s0 : 256 <= sm) (s1 : sm <= 4000) (hE : (toh + 1) * sm = E) :
 Calls Tryz.prog 66 #[.agg #[.slice aw ws.length cw, .int .i64 sm, .int .i64 toh, .int .i64 top, .bool cyc, .int .i64 sn, .int .i64 old, .int .i64 cp, .int .i64 sr, .slice ar rs.length cr]] w fun e w' => e = .returned (.int .i64 E) /\ Below w.heap.size w w' := by
 subst hE
 exact zet aw cw ws sm toh top cyc sn old cp sr ar cr rs w h0 h1 s0 s1
theorem zbn {aw : Option Addr} {cw : Nat} {ws : List Int} {sm toh top : Int} {cyc : Bool} {sn old cp sr : Int} {ar : Option Addr} {cr : Nat} {rs : List (Int × Int)} {w w' : World} (hB : Below (w.alloc (.cells #[.slice aw ws.length cw, .int .i64 sm, .int .i64 toh, .int .i64 top, .bool cyc, .int .i64 sn, .int .i64 old, .int .i64 cp, .int .i64 sr, .slice ar rs.length cr] 41)).heap.size (w.alloc (.cells #[.slice aw ws.length cw, .int .i64 sm, .int .i64 toh, .int .i64 top, .bool cyc, .int .i64 sn, .int .i64 old, .int .i64 cp, .int .i64 sr, .slice ar rs.length cr] 41)) w') :
 w'.cell? ⟨w.heap.size, 0, none⟩ = some (.slice aw ws.length cw) /\ w'.cell? ⟨w.heap.size, 1, none⟩ = some (.int .i64 sm) /\ w'.cell? ⟨w.heap.size, 2, none⟩ = some (.int .i64 toh) /\ w'.cell? ⟨w.heap.size, 3, none⟩ = some (.int .i64 top) /\ w'.cell? ⟨w.heap.size, 4, none⟩ = some (.bool cyc) /\ w'.cell? ⟨w.heap.size, 5, none⟩ = some (.int .i64 sn) /\ w'.cell? ⟨w.heap.size, 6, none⟩ = some (.int .i64 old) /\ w'.cell? ⟨w.heap.size, 7, none⟩ = some (.int .i64 cp) /\ w'.cell? ⟨w.heap.size, 8, none⟩ = some (.int .i64 sr) /\ w'.cell? ⟨w.heap.size, 9, none⟩ = some (.slice ar rs.length cr) := by
 have h : ∀ i, w'.cell? ⟨w.heap.size, i, none⟩ = (w.alloc (.cells #[.slice aw ws.length cw, .int .i64 sm, .int .i64 toh, .int .i64 top, .bool cyc, .int .i64 sn, .int .i64 old, .int .i64 cp, .int .i64 sr, .slice ar rs.length cr] 41)).cell? ⟨w.heap.size, i, none⟩ := fun i => hB.cell (p := ⟨w.heap.size, i, none⟩) (by simp)
 refine ⟨?_, ?_, ?_, ?_, ?_, ?_, ?_, ?_, ?_, ?_⟩ <;> rw [h] <;> simp [go_sem]
theorem zio (aw : Option Addr) (cw : Nat) (ws : List Int) (sm toh top : Int) (cyc : Bool) (sn old cp sr : Int) (ar : Option Addr) (cr : Nat) (rs : List (Int × Int)) (p i : Nat) (w : World) (hs : Sl w (.slice aw ws.length cw) ws) (hn : ws.length <= 1048576) (h : p + i < ws.length) :
 Calls Tryz.prog 71 #[.agg #[.slice aw ws.length cw, .int .i64 sm, .int .i64 toh, .int .i64 top, .bool cyc, .int .i64 sn, .int .i64 old, .int .i64 cp, .int .i64 sr, .slice ar rs.length cr], .int .i64 p, .int .i64 i] w fun e w' => e = .returned (.int .i64 (wrap64 (za ws (p + i)))) /\ Below w.heap.size w w' := by
 obtain ⟨b, off, rfl, hl, hc⟩ := zcl hs h
 have q := hc (p + i) h
 have h1 : (p : Int) + (i : Int) < (ws.length : Int) := by omega
 have h2 : (ws.length : Int) <= 1048576 := by omega
 clear hc
 go_enter Tryz.func71, Tryz.ntmps71
 go_wp2
 go_ret
 exact ⟨rfl, (Below.refl _ _).alloc (Nat.le_refl _) _⟩
def zah (x : Int) : Bool := hOk (x % 16) (x / 16 % 65536) (x / 1048576)
def rdK (x : Int) : Int := if zah x = true then x % 16 else 0
def rdS (x : Int) : Int := if zah x = true then x / 16 % 65536 else 0
def rdN (x : Int) : Int := if zah x = true then x / 1048576 else 0
theorem za7 (x : Int) (w : World) (h0 : 0 <= x) (h1 : x < 18446744073709551616) :
 Calls Tryz.prog 67 #[.int .u64 x] w fun e w' => e = .returned (.tuple #[.agg #[.int .i64 (rdK x), .int .i64 (rdS x), .int .i64 (rdN x)], .bool (zah x)]) /\ Below w.heap.size w w' := by
 by_cases h : zah x = true
 · have := zib x w h0 h1 h
   simpa only [rdK, rdS, rdN, h, if_true] using this
 · have h' : zah x = false := by rwa [Bool.not_eq_true] at h
   have := zir x w h0 h1 h'
   simpa [rdK, rdS, rdN, h'] using this
def zbz (x : Int) : Bool := decide (9223372036854775808 <= x /\ x <= 9223372039002259455)
def fwP (x : Int) : Int := if zbz x = true then x - 9223372036854775808 else 0
theorem zbe (x : Int) (w : World) (h0 : 0 <= x) (h1 : x < 18446744073709551616) :
 Calls Tryz.prog 68 #[.int .u64 x] w fun e w' => e = .returned (.tuple #[.int .i64 (fwP x), .bool (zbz x)]) /\ w' = w := by
 by_cases h : 9223372036854775808 <= x /\ x <= 9223372039002259455
 · have h' : zbz x = true := decide_eq_true h
   have := zhl x w h.1 h.2
   simpa only [fwP, h', if_true] using this
 · have h' : zbz x = false := decide_eq_false h
   by_cases g : x < 9223372036854775808
   · have := zhm x w h0 g
     simpa [fwP, h'] using this
   · have := zhn x w (by omega) h1
     simpa [fwP, h'] using this
theorem zdy {w w' : World} {o o2 : Obj} (hb : Below ((w.alloc o).alloc o2).heap.size ((w.alloc o).alloc o2) w') : w.heap.size + 1 < w'.heap.size := by
 have h := hb.size
 simp at h
 omega
theorem zac {w w' : World} {o o2 : Obj} (hb : Below ((w.alloc o).alloc o2).heap.size ((w.alloc o).alloc o2) w') : Below w.heap.size w w' :=
 (((Below.refl _ _).alloc (Nat.le_refl _) _).alloc (by simp) _).trans (hb.mono (by simp; omega))
theorem zoz (aw : Option Addr) (cw : Nat) (ws : List Int) (sm toh top : Int) (cyc : Bool) (sn old cp sr : Int) (ar : Option Addr) (cr : Nat) (rs : List (Int × Int)) (p : Nat) (w : World) (hs : Sl w (.slice aw ws.length cw) ws) (hn : ws.length <= 1048576) (hw : zg ws) (h : p < ws.length) :
 Calls Tryz.prog 49 #[.agg #[.slice aw ws.length cw, .int .i64 sm, .int .i64 toh, .int .i64 top, .bool cyc, .int .i64 sn, .int .i64 old, .int .i64 cp, .int .i64 sr, .slice ar rs.length cr], .int .i64 p] w fun e w' => e = .returned (.agg #[.int .i64 (rdK (za ws p)), .int .i64 (rdS (za ws p)), .int .i64 (rdN (za ws p))]) /\ Below w.heap.size w w' := by
 obtain ⟨b, off, rfl, hl, hc⟩ := zcl hs h
 have q := hc p h
 have q' := fun o o2 => zei (o := o2) (Nat.lt_of_lt_of_le hl (show w.heap.size <= (w.alloc o).heap.size by simp)) (q o)
 have h1 : (p : Int) < (ws.length : Int) := by omega
 have hx := zx hw p
 clear hc q
 go_enter Tryz.func49, Tryz.ntmps49
 go_wp2_with fail
 refine (za7 _ _ hx.1 hx.2).mono ?_
 rintro e w1 ⟨rfl, b1⟩
 obtain ⟨c1, f1⟩ := zp b1
 have z1 := zdy b1
 have B1 := zac b1
 go_wp2
 have p0 : (w1.cell? ⟨w.heap.size + 1, 0, none⟩).isSome = true := by rw [c1 _ _ (by simp)]; simp [go_sem]
 have p1 : (w1.cell? ⟨w.heap.size + 1, 1, none⟩).isSome = true := by rw [c1 _ _ (by simp)]; simp [go_sem]
 have p2 : (w1.cell? ⟨w.heap.size + 1, 2, none⟩).isSome = true := by rw [c1 _ _ (by simp)]; simp [go_sem]
 have hne : w.heap.size + 1 ≠ w1.heap.size := by omega
 refine bodyPost_ret (v := .agg #[.int .i64 (rdK (za ws p)), .int .i64 (rdS (za ws p)), .int .i64 (rdN (za ws p))]) (by simp [results, Tryz.results49, go_sem, p0, p1, p2, hne, World.cell?_alloc_lt, z1]) rfl ⟨rfl, ?_⟩
 have hle : w.heap.size <= w.heap.size + 1 := Nat.le_succ _
 refine Below.alloc ?_ (by simpa using B1.size) _
 exact ((B1.setCell (p := ⟨w.heap.size + 1, 0, none⟩) hle _).setCell (p := ⟨w.heap.size + 1, 1, none⟩) hle _).setCell (p := ⟨w.heap.size + 1, 2, none⟩) hle _
def zi (ws : List Int) (p : Nat) : Int := if zbz (za ws p) = true then fwP (za ws p) else p
theorem zm7 (aw : Option Addr) (cw : Nat) (ws : List Int) (sm toh top : Int) (cyc : Bool) (sn old cp sr : Int) (ar : Option Addr) (cr : Nat) (rs : List (Int × Int)) (p : Nat) (w : World) (hs : Sl w (.slice aw ws.length cw) ws) (hn : ws.length <= 1048576) (hw : zg ws) (h : p < ws.length) :
 Calls Tryz.prog 73 #[.agg #[.slice aw ws.length cw, .int .i64 sm, .int .i64 toh, .int .i64 top, .bool cyc, .int .i64 sn, .int .i64 old, .int .i64 cp, .int .i64 sr, .slice ar rs.length cr], .int .i64 p] w fun e w' => e = .returned (.int .i64 (zi ws p)) /\ Below w.heap.size w w' := by
 obtain ⟨b, off, rfl, hl, hc⟩ := zcl hs h
 have q := hc p h
 have h1 : (p : Int) < (ws.length : Int) := by omega
 have hx := zx hw p
 clear hc
 go_enter Tryz.func73, Tryz.ntmps73
 go_wp2_with fail
 refine (zbe _ _ hx.1 hx.2).mono ?_
 rintro e w1 ⟨rfl, rfl⟩
 by_cases hf : zbz (za ws p) = true
 · go_wp2
   go_ret
   exact ⟨zb5 (by simp [zi, hf]), (Below.refl _ _).alloc (Nat.le_refl _) _⟩
 · rw [Bool.not_eq_true] at hf
   go_wp2
   go_ret
   exact ⟨zb5 (by simp [zi, hf]), (Below.refl _ _).alloc (Nat.le_refl _) _⟩
end Go.Proofs.YthdnpafigkkkkaaGreat
