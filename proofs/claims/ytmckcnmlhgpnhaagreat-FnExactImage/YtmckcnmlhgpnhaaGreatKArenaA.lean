/- Arenas as they are handed in: the struct's ten cells; the model's small readers of words and heads. -/
import Derived.Test.YtmckcnmlhgpnhaaGreatProg
import Derived.Test.YtmckcnmlhgpnhaaGreatKSliceA
import Derived.Test.YtmckcnmlhgpnhaaGreatKGetA
import Derived.WalkKit
import Derived.WalkSpells
import Derived.WalkLawsBesides
import Derived.Below
import Derived.Outline
import Derived.Deep.Light
namespace Go.Proofs.YtmckcnmlhgpnhaaGreat
set_option maxRecDepth 20000
open Go.RowKit
set_option linter.unusedSimpArgs false
set_option linter.unusedVariables false

/-- The word at a place. -/
def wordAt (ws : List Int) (p : Nat) : Int := ws.getD p 0

theorem cell_alloc_lt' {w : World} {o : Obj} {b i : Nat} {v : Value} (hb : b < w.heap.size) (h : w.cell? ⟨b, i, none⟩ = some v) : (w.alloc o).cell? ⟨b, i, none⟩ = some v := by
  rw [World.cell?_alloc_lt w o ⟨b, i, none⟩ hb]; exact h

theorem l2Start_any (aw : Option Addr) (cw : Nat) (ws : List Int) (semi toh top : Int) (cyc : Bool) (scan old copied serial : Int) (ar : Option Addr) (cr : Nat) (rs : List (Int × Int)) (h : Int) (w : World) (h0 : 0 ≤ h) (h1 : h ≤ 1) (s0 : 256 ≤ semi) (s1 : semi ≤ 4000) :
    Calls Tryz.prog 57 #[.agg #[.slice aw ws.length cw, .int .i64 semi, .int .i64 toh, .int .i64 top, .bool cyc, .int .i64 scan, .int .i64 old, .int .i64 copied, .int .i64 serial, .slice ar rs.length cr], .int .i64 h] w fun e w' => e = .returned (.int .i64 (h * semi + 1)) ∧ Below w.heap.size w w' := by
  have m0 : 0 ≤ h * semi := Int.mul_nonneg h0 (by omega)
  have m1 : h * semi ≤ 4000 := by
    have : h = 0 ∨ h = 1 := by omega
    rcases this with rfl | rfl <;> omega
  go_enter Tryz.func57, Tryz.ntmps57
  go_wp2
  go_ret
  exact ⟨rfl, (Below.refl _ _).alloc (Nat.le_refl _) _⟩
theorem l2End_any (aw : Option Addr) (cw : Nat) (ws : List Int) (semi toh top : Int) (cyc : Bool) (scan old copied serial : Int) (ar : Option Addr) (cr : Nat) (rs : List (Int × Int)) (w : World) (h0 : 0 ≤ toh) (h1 : toh ≤ 1) (s0 : 256 ≤ semi) (s1 : semi ≤ 4000) :
    Calls Tryz.prog 124 #[.agg #[.slice aw ws.length cw, .int .i64 semi, .int .i64 toh, .int .i64 top, .bool cyc, .int .i64 scan, .int .i64 old, .int .i64 copied, .int .i64 serial, .slice ar rs.length cr]] w fun e w' => e = .returned (.int .i64 ((toh + 1) * semi)) ∧ Below w.heap.size w w' := by
  have m0 : 0 ≤ (toh + 1) * semi := Int.mul_nonneg (by omega) (by omega)
  have m1 : (toh + 1) * semi ≤ 8000 := by
    have : toh = 0 ∨ toh = 1 := by omega
    rcases this with rfl | rfl <;> omega
  go_enter Tryz.func124, Tryz.ntmps124
  go_wp2
  go_ret
  exact ⟨rfl, (Below.refl _ _).alloc (Nat.le_refl _) _⟩

theorem arena_opened {aw : Option Addr} {cw : Nat} {ws : List Int} {w : World} (hs : Sl w (.slice aw ws.length cw) ws) {k : Nat} (h : k < ws.length) :
    ∃ b off, aw = some ⟨b, off, none⟩ ∧ b < w.heap.size ∧ ∀ i, i < ws.length → ∀ o : Obj, (w.alloc o).cell? ⟨b, off + i, none⟩ = some (.int .u64 (wordAt ws i)) := by
  obtain ⟨a', c', he, hs⟩ := hs
  simp only [Value.slice.injEq] at he
  obtain ⟨rfl, _, _⟩ := he
  rcases hs with rfl | ⟨b, off, rfl, hl, hc⟩
  · simp at h
  · exact ⟨b, off, rfl, hl, fun i hi o => cell_alloc_lt' hl (hc i hi)⟩
theorem word_in {ws : List Int} (h : Words64 ws) (p : Nat) : 0 ≤ wordAt ws p ∧ wordAt ws p < 18446744073709551616 := by
  unfold wordAt
  by_cases hi : p < ws.length
  · simp only [List.getD_eq_getElem?_getD, List.getElem?_eq_getElem hi, Option.getD_some]
    exact h _ (List.getElem_mem hi)
  · simp [List.getElem?_eq_none (Nat.le_of_not_lt hi)]

/-- The same, the answer behind a letter: so the walk behind it meets no product of two letters. -/
theorem l2Start_is (aw : Option Addr) (cw : Nat) (ws : List Int) (semi toh top : Int) (cyc : Bool) (scan old copied serial : Int) (ar : Option Addr) (cr : Nat) (rs : List (Int × Int)) (h F : Int) (w : World) (h0 : 0 ≤ h) (h1 : h ≤ 1) (s0 : 256 ≤ semi) (s1 : semi ≤ 4000) (hF : h * semi + 1 = F) :
    Calls Tryz.prog 57 #[.agg #[.slice aw ws.length cw, .int .i64 semi, .int .i64 toh, .int .i64 top, .bool cyc, .int .i64 scan, .int .i64 old, .int .i64 copied, .int .i64 serial, .slice ar rs.length cr], .int .i64 h] w fun e w' => e = .returned (.int .i64 F) ∧ Below w.heap.size w w' := by
  subst hF
  exact l2Start_any aw cw ws semi toh top cyc scan old copied serial ar cr rs h w h0 h1 s0 s1
theorem l2End_is (aw : Option Addr) (cw : Nat) (ws : List Int) (semi toh top : Int) (cyc : Bool) (scan old copied serial : Int) (ar : Option Addr) (cr : Nat) (rs : List (Int × Int)) (E : Int) (w : World) (h0 : 0 ≤ toh) (h1 : toh ≤ 1) (s0 : 256 ≤ semi) (s1 : semi ≤ 4000) (hE : (toh + 1) * semi = E) :
    Calls Tryz.prog 124 #[.agg #[.slice aw ws.length cw, .int .i64 semi, .int .i64 toh, .int .i64 top, .bool cyc, .int .i64 scan, .int .i64 old, .int .i64 copied, .int .i64 serial, .slice ar rs.length cr]] w fun e w' => e = .returned (.int .i64 E) ∧ Below w.heap.size w w' := by
  subst hE
  exact l2End_any aw cw ws semi toh top cyc scan old copied serial ar cr rs w h0 h1 s0 s1

/-- The ten cells of an arena that was handed in, behind whatever only makes memory. -/
theorem box_cells {aw : Option Addr} {cw : Nat} {ws : List Int} {semi toh top : Int} {cyc : Bool} {scan old copied serial : Int} {ar : Option Addr} {cr : Nat} {rs : List (Int × Int)} {w w' : World} (hB : Below (w.alloc (.cells #[.slice aw ws.length cw, .int .i64 semi, .int .i64 toh, .int .i64 top, .bool cyc, .int .i64 scan, .int .i64 old, .int .i64 copied, .int .i64 serial, .slice ar rs.length cr] 30)).heap.size (w.alloc (.cells #[.slice aw ws.length cw, .int .i64 semi, .int .i64 toh, .int .i64 top, .bool cyc, .int .i64 scan, .int .i64 old, .int .i64 copied, .int .i64 serial, .slice ar rs.length cr] 30)) w') :
    w'.cell? ⟨w.heap.size, 0, none⟩ = some (.slice aw ws.length cw) ∧ w'.cell? ⟨w.heap.size, 1, none⟩ = some (.int .i64 semi) ∧ w'.cell? ⟨w.heap.size, 2, none⟩ = some (.int .i64 toh) ∧ w'.cell? ⟨w.heap.size, 3, none⟩ = some (.int .i64 top) ∧ w'.cell? ⟨w.heap.size, 4, none⟩ = some (.bool cyc) ∧ w'.cell? ⟨w.heap.size, 5, none⟩ = some (.int .i64 scan) ∧ w'.cell? ⟨w.heap.size, 6, none⟩ = some (.int .i64 old) ∧ w'.cell? ⟨w.heap.size, 7, none⟩ = some (.int .i64 copied) ∧ w'.cell? ⟨w.heap.size, 8, none⟩ = some (.int .i64 serial) ∧ w'.cell? ⟨w.heap.size, 9, none⟩ = some (.slice ar rs.length cr) := by
  have h : ∀ i, w'.cell? ⟨w.heap.size, i, none⟩ = (w.alloc (.cells #[.slice aw ws.length cw, .int .i64 semi, .int .i64 toh, .int .i64 top, .bool cyc, .int .i64 scan, .int .i64 old, .int .i64 copied, .int .i64 serial, .slice ar rs.length cr] 30)).cell? ⟨w.heap.size, i, none⟩ := fun i => hB.cell (p := ⟨w.heap.size, i, none⟩) (by simp)
  refine ⟨?_, ?_, ?_, ?_, ?_, ?_, ?_, ?_, ?_, ?_⟩ <;> rw [h] <;> simp [go_sem]

theorem l2Word_any (aw : Option Addr) (cw : Nat) (ws : List Int) (semi toh top : Int) (cyc : Bool) (scan old copied serial : Int) (ar : Option Addr) (cr : Nat) (rs : List (Int × Int)) (p i : Nat) (w : World) (hs : Sl w (.slice aw ws.length cw) ws) (hn : ws.length ≤ 1048576) (h : p + i < ws.length) :
    Calls Tryz.prog 126 #[.agg #[.slice aw ws.length cw, .int .i64 semi, .int .i64 toh, .int .i64 top, .bool cyc, .int .i64 scan, .int .i64 old, .int .i64 copied, .int .i64 serial, .slice ar rs.length cr], .int .i64 p, .int .i64 i] w fun e w' => e = .returned (.int .i64 (wrap64 (wordAt ws (p + i)))) ∧ Below w.heap.size w w' := by
  obtain ⟨b, off, rfl, hl, hc⟩ := arena_opened hs h
  have q := hc (p + i) h
  have h1 : (p : Int) + (i : Int) < (ws.length : Int) := by omega
  have h2 : (ws.length : Int) ≤ 1048576 := by omega
  clear hc
  go_enter Tryz.func126, Tryz.ntmps126
  go_wp2
  go_ret
  exact ⟨rfl, (Below.refl _ _).alloc (Nat.le_refl _) _⟩

/-- What ReadHead says of a word. -/
def rdOk (x : Int) : Bool := hOk (x % 16) (x / 16 % 65536) (x / 1048576)
def rdK (x : Int) : Int := if rdOk x = true then x % 16 else 0
def rdS (x : Int) : Int := if rdOk x = true then x / 16 % 65536 else 0
def rdN (x : Int) : Int := if rdOk x = true then x / 1048576 else 0
theorem specReadHead_any (x : Int) (w : World) (h0 : 0 ≤ x) (h1 : x < 18446744073709551616) :
    Calls Tryz.prog 98 #[.int .u64 x] w fun e w' => e = .returned (.tuple #[.agg #[.int .i64 (rdK x), .int .i64 (rdS x), .int .i64 (rdN x)], .bool (rdOk x)]) ∧ Below w.heap.size w w' := by
  by_cases h : rdOk x = true
  · have := specReadHead_yes x w h0 h1 h
    simpa only [rdK, rdS, rdN, h, if_true] using this
  · have h' : rdOk x = false := by rwa [Bool.not_eq_true] at h
    have := specReadHead_no x w h0 h1 h'
    simpa [rdK, rdS, rdN, h'] using this

/-- What Forwarded says of a word. -/
def fwOk (x : Int) : Bool := decide (9223372036854775808 ≤ x ∧ x ≤ 9223372039002259455)
def fwP (x : Int) : Int := if fwOk x = true then x - 9223372036854775808 else 0
theorem specForwarded_any (x : Int) (w : World) (h0 : 0 ≤ x) (h1 : x < 18446744073709551616) :
    Calls Tryz.prog 100 #[.int .u64 x] w fun e w' => e = .returned (.tuple #[.int .i64 (fwP x), .bool (fwOk x)]) ∧ w' = w := by
  by_cases h : 9223372036854775808 ≤ x ∧ x ≤ 9223372039002259455
  · have h' : fwOk x = true := decide_eq_true h
    have := specForwarded_yes x w h.1 h.2
    simpa only [fwP, h', if_true] using this
  · have h' : fwOk x = false := decide_eq_false h
    by_cases g : x < 9223372036854775808
    · have := specForwarded_low x w h0 g
      simpa [fwP, h'] using this
    · have := specForwarded_far x w (by omega) h1
      simpa [fwP, h'] using this

theorem size_second {w w' : World} {o o2 : Obj} (hb : Below ((w.alloc o).alloc o2).heap.size ((w.alloc o).alloc o2) w') : w.heap.size + 1 < w'.heap.size := by
  have h := hb.size
  simp at h
  omega
theorem below_second {w w' : World} {o o2 : Obj} (hb : Below ((w.alloc o).alloc o2).heap.size ((w.alloc o).alloc o2) w') : Below w.heap.size w w' :=
  (((Below.refl _ _).alloc (Nat.le_refl _) _).alloc (by simp) _).trans (hb.mono (by simp; omega))

theorem l2Look_any (aw : Option Addr) (cw : Nat) (ws : List Int) (semi toh top : Int) (cyc : Bool) (scan old copied serial : Int) (ar : Option Addr) (cr : Nat) (rs : List (Int × Int)) (p : Nat) (w : World) (hs : Sl w (.slice aw ws.length cw) ws) (hn : ws.length ≤ 1048576) (hw : Words64 ws) (h : p < ws.length) :
    Calls Tryz.prog 43 #[.agg #[.slice aw ws.length cw, .int .i64 semi, .int .i64 toh, .int .i64 top, .bool cyc, .int .i64 scan, .int .i64 old, .int .i64 copied, .int .i64 serial, .slice ar rs.length cr], .int .i64 p] w fun e w' => e = .returned (.agg #[.int .i64 (rdK (wordAt ws p)), .int .i64 (rdS (wordAt ws p)), .int .i64 (rdN (wordAt ws p))]) ∧ Below w.heap.size w w' := by
  obtain ⟨b, off, rfl, hl, hc⟩ := arena_opened hs h
  have q := hc p h
  have q' := fun o o2 => cell_alloc_lt' (o := o2) (Nat.lt_of_lt_of_le hl (show w.heap.size ≤ (w.alloc o).heap.size by simp)) (q o)
  have h1 : (p : Int) < (ws.length : Int) := by omega
  have hx := word_in hw p
  clear hc q
  go_enter Tryz.func43, Tryz.ntmps43
  go_wp2_with fail
  refine (specReadHead_any _ _ hx.1 hx.2).mono ?_
  rintro e w1 ⟨rfl, b1⟩
  obtain ⟨c1, f1⟩ := bcell b1
  have z1 := size_second b1
  have B1 := below_second b1
  go_wp2
  have p0 : (w1.cell? ⟨w.heap.size + 1, 0, none⟩).isSome = true := by rw [c1 _ _ (by simp)]; simp [go_sem]
  have p1 : (w1.cell? ⟨w.heap.size + 1, 1, none⟩).isSome = true := by rw [c1 _ _ (by simp)]; simp [go_sem]
  have p2 : (w1.cell? ⟨w.heap.size + 1, 2, none⟩).isSome = true := by rw [c1 _ _ (by simp)]; simp [go_sem]
  have hne : w.heap.size + 1 ≠ w1.heap.size := by omega
  refine bodyPost_ret (v := .agg #[.int .i64 (rdK (wordAt ws p)), .int .i64 (rdS (wordAt ws p)), .int .i64 (rdN (wordAt ws p))]) (by simp [results, Tryz.results43, go_sem, p0, p1, p2, hne, World.cell?_alloc_lt, z1]) rfl ⟨rfl, ?_⟩
  have hle : w.heap.size ≤ w.heap.size + 1 := Nat.le_succ _
  refine Below.alloc ?_ (by simpa using B1.size) _
  exact ((B1.setCell (p := ⟨w.heap.size + 1, 0, none⟩) hle _).setCell (p := ⟨w.heap.size + 1, 1, none⟩) hle _).setCell (p := ⟨w.heap.size + 1, 2, none⟩) hle _

/-- Where a place leads. -/
def leadsAt (ws : List Int) (p : Nat) : Int := if fwOk (wordAt ws p) = true then fwP (wordAt ws p) else p
theorem l2Where_any (aw : Option Addr) (cw : Nat) (ws : List Int) (semi toh top : Int) (cyc : Bool) (scan old copied serial : Int) (ar : Option Addr) (cr : Nat) (rs : List (Int × Int)) (p : Nat) (w : World) (hs : Sl w (.slice aw ws.length cw) ws) (hn : ws.length ≤ 1048576) (hw : Words64 ws) (h : p < ws.length) :
    Calls Tryz.prog 46 #[.agg #[.slice aw ws.length cw, .int .i64 semi, .int .i64 toh, .int .i64 top, .bool cyc, .int .i64 scan, .int .i64 old, .int .i64 copied, .int .i64 serial, .slice ar rs.length cr], .int .i64 p] w fun e w' => e = .returned (.int .i64 (leadsAt ws p)) ∧ Below w.heap.size w w' := by
  obtain ⟨b, off, rfl, hl, hc⟩ := arena_opened hs h
  have q := hc p h
  have h1 : (p : Int) < (ws.length : Int) := by omega
  have hx := word_in hw p
  clear hc
  go_enter Tryz.func46, Tryz.ntmps46
  go_wp2_with fail
  refine (specForwarded_any _ _ hx.1 hx.2).mono ?_
  rintro e w1 ⟨rfl, rfl⟩
  by_cases hf : fwOk (wordAt ws p) = true
  · go_wp2
    go_ret
    exact ⟨ret_int (by simp [leadsAt, hf]), (Below.refl _ _).alloc (Nat.le_refl _) _⟩
  · rw [Bool.not_eq_true] at hf
    go_wp2
    go_ret
    exact ⟨ret_int (by simp [leadsAt, hf]), (Below.refl _ _).alloc (Nat.le_refl _) _⟩
end Go.Proofs.YtmckcnmlhgpnhaaGreat
