/- The model's l2StrOk. -/
import Derived.Test.YtdcniiihanjjnaaGreatProg
import Derived.Test.YtdcniiihanjjnaaGreatKReadsA
namespace Go.Proofs.YtdcniiihanjjnaaGreat
set_option maxRecDepth 20000
open Go.RowKit
set_option linter.unusedSimpArgs false
set_option linter.unusedVariables false

/-- The words of a text, behind its head at p, of size s. -/
def strOk (ws : List Int) (p : Nat) (s : Int) : Bool := decide (wordAt ws (p + 1) ≤ 160 ∧ s = 1 + (wordAt ws (p + 1) + 7) / 8 ∧
  (wordAt ws (p + 1) % 8 = 0 ∨ wordAt ws (p + s.toNat) / 2 ^ (8 * (wordAt ws (p + 1) % 8)).toNat = 0))

theorem l2StrOk_far (aw : Option Addr) (cw : Nat) (ws : List Int) (semi toh top : Int) (cyc : Bool) (scan old copied serial : Int) (ar : Option Addr) (cr : Nat) (rs : List (Int × Int)) (x s z : Int) (p : Nat) (w : World) (hx : x = p) (hs : Sl w (.slice aw ws.length cw) ws) (hn : ws.length ≤ 1048576) (hw : Words64 ws) (h : p + 1 < ws.length) (hz : wrap64 (wordAt ws (p + 1)) = z) (hf : inB z 0 160 = false) :
    Calls Tryz.prog 80 #[.agg #[.slice aw ws.length cw, .int .i64 semi, .int .i64 toh, .int .i64 top, .bool cyc, .int .i64 scan, .int .i64 old, .int .i64 copied, .int .i64 serial, .slice ar rs.length cr], .int .i64 x, .int .i64 s] w fun e w' => e = .returned (.bool false) ∧ Below w.heap.size w w' := by
  have HX : Hid (x = (p : Int)) := hx
  have HZ : Hid (wrap64 (wordAt ws (p + 1)) = z) := hz
  clear hx hz
  go_enter Tryz.func80, Tryz.ntmps80
  go_wp2_with fail
  refine (l2Word_is _ _ _ _ _ _ _ _ _ _ _ _ _ _ _ _ z p 1 _ HX.out rfl HZ.out (sl_alloc hs _) hn h).mono ?_
  rintro e w1 ⟨rfl, b1⟩
  have B1 := below_first b1
  clear b1
  go_wp2_with (go_at_call 78; refine (l1In_any _ _ _ _).mono ?_; rintro e w' ⟨rfl, rfl⟩)
  go_ret
  exact ⟨rfl, B1⟩

theorem l2StrOk_size (aw : Option Addr) (cw : Nat) (ws : List Int) (semi toh top : Int) (cyc : Bool) (scan old copied serial : Int) (ar : Option Addr) (cr : Nat) (rs : List (Int × Int)) (x s z d : Int) (p : Nat) (w : World) (hx : x = p) (hs : Sl w (.slice aw ws.length cw) ws) (hn : ws.length ≤ 1048576) (hw : Words64 ws) (h : p + 1 < ws.length) (hz : wrap64 (wordAt ws (p + 1)) = z) (hf : inB z 0 160 = true) (z0 : 0 ≤ z) (z1 : z ≤ 160) (hd : (z + 7).tdiv 8 = d) (d0 : 0 ≤ d) (d1 : d ≤ 20) (hne : (s != 1 + d) = true) :
    Calls Tryz.prog 80 #[.agg #[.slice aw ws.length cw, .int .i64 semi, .int .i64 toh, .int .i64 top, .bool cyc, .int .i64 scan, .int .i64 old, .int .i64 copied, .int .i64 serial, .slice ar rs.length cr], .int .i64 x, .int .i64 s] w fun e w' => e = .returned (.bool false) ∧ Below w.heap.size w w' := by
  have HX : Hid (x = (p : Int)) := hx
  have HZ : Hid (wrap64 (wordAt ws (p + 1)) = z) := hz
  clear hx hz
  go_enter Tryz.func80, Tryz.ntmps80
  go_wp2_with fail
  refine (l2Word_is _ _ _ _ _ _ _ _ _ _ _ _ _ _ _ _ z p 1 _ HX.out rfl HZ.out (sl_alloc hs _) hn h).mono ?_
  rintro e w1 ⟨rfl, b1⟩
  have B1 := below_first b1
  clear b1
  go_wp2_with (go_at_call 78; refine (l1In_any _ _ _ _).mono ?_; rintro e w' ⟨rfl, rfl⟩)
  go_ret
  exact ⟨rfl, B1⟩

theorem l2StrOk_even (aw : Option Addr) (cw : Nat) (ws : List Int) (semi toh top : Int) (cyc : Bool) (scan old copied serial : Int) (ar : Option Addr) (cr : Nat) (rs : List (Int × Int)) (x s z d : Int) (p : Nat) (w : World) (hx : x = p) (hs : Sl w (.slice aw ws.length cw) ws) (hn : ws.length ≤ 1048576) (hw : Words64 ws) (h : p + 1 < ws.length) (hz : wrap64 (wordAt ws (p + 1)) = z) (hf : inB z 0 160 = true) (z0 : 0 ≤ z) (z1 : z ≤ 160) (hd : (z + 7).tdiv 8 = d) (d0 : 0 ≤ d) (d1 : d ≤ 20) (hne : (s != 1 + d) = false) (hl : z.tmod 8 = 0) :
    Calls Tryz.prog 80 #[.agg #[.slice aw ws.length cw, .int .i64 semi, .int .i64 toh, .int .i64 top, .bool cyc, .int .i64 scan, .int .i64 old, .int .i64 copied, .int .i64 serial, .slice ar rs.length cr], .int .i64 x, .int .i64 s] w fun e w' => e = .returned (.bool true) ∧ Below w.heap.size w w' := by
  have HX : Hid (x = (p : Int)) := hx
  have HZ : Hid (wrap64 (wordAt ws (p + 1)) = z) := hz
  clear hx hz
  go_enter Tryz.func80, Tryz.ntmps80
  go_wp2_with fail
  refine (l2Word_is _ _ _ _ _ _ _ _ _ _ _ _ _ _ _ _ z p 1 _ HX.out rfl HZ.out (sl_alloc hs _) hn h).mono ?_
  rintro e w1 ⟨rfl, b1⟩
  have B1 := below_first b1
  clear b1
  go_wp2_with (go_at_call 78; refine (l1In_any _ _ _ _).mono ?_; rintro e w' ⟨rfl, rfl⟩)
  go_ret
  exact ⟨rfl, B1⟩

theorem l2StrOk_odd (b off : Nat) (cw : Nat) (ws : List Int) (semi toh top : Int) (cyc : Bool) (scan old copied serial : Int) (ar : Option Addr) (cr : Nat) (rs : List (Int × Int)) (x s z d l y : Int) (p : Nat) (w : World) (hx : x = p) (hs : Sl w (.slice (some ⟨b, off, none⟩) ws.length cw) ws) (hn : ws.length ≤ 1048576) (hw : Words64 ws) (h : p + 1 < ws.length) (hz : wrap64 (wordAt ws (p + 1)) = z) (hf : inB z 0 160 = true) (z0 : 0 ≤ z) (z1 : z ≤ 160) (hd : (z + 7).tdiv 8 = d) (d0 : 0 ≤ d) (d1 : d ≤ 20) (hne : (s != 1 + d) = false) (hl : z.tmod 8 = l) (l0 : 1 ≤ l) (l1 : l ≤ 7)
    (x0 : 0 ≤ x) (x1 : x ≤ 1048576) (s0 : 0 ≤ s) (s1 : s ≤ 65535) (i1 : x + s < (ws.length : Int)) (hy0 : 0 ≤ y) (hy1 : y < 18446744073709551616) (hc : ∀ W, Below w.heap.size w W → W.cell? ⟨b, off + (x + s).toNat, none⟩ = some (.int .u64 y)) :
    Calls Tryz.prog 80 #[.agg #[.slice (some ⟨b, off, none⟩) ws.length cw, .int .i64 semi, .int .i64 toh, .int .i64 top, .bool cyc, .int .i64 scan, .int .i64 old, .int .i64 copied, .int .i64 serial, .slice ar rs.length cr], .int .i64 x, .int .i64 s] w fun e w' => e = .returned (.bool (decide (y / 2 ^ (8 * l).toNat = 0))) ∧ Below w.heap.size w w' := by
  have HX : Hid (x = (p : Int)) := hx
  have HZ : Hid (wrap64 (wordAt ws (p + 1)) = z) := hz
  clear hx hz
  have hn' : (ws.length : Int) ≤ 1048576 := by omega
  have hll : l = 1 ∨ l = 2 ∨ l = 3 ∨ l = 4 ∨ l = 5 ∨ l = 6 ∨ l = 7 := by omega
  rcases hll with rfl | rfl | rfl | rfl | rfl | rfl | rfl
  all_goals
    go_enter Tryz.func80, Tryz.ntmps80
    go_wp2_with fail
    refine (l2Word_is _ _ _ _ _ _ _ _ _ _ _ _ _ _ _ _ z p 1 _ HX.out rfl HZ.out (sl_alloc hs _) hn h).mono ?_
    rintro e w1 ⟨rfl, b1⟩
    obtain ⟨k0, k1, k2, k3, k4, k5, k6, k7, k8, k9⟩ := box_cells b1
    have B1 := below_first b1
    have q := hc w1 B1
    clear b1 hc
    go_wp2_with (go_at_call 78; refine (l1In_any _ _ _ _).mono ?_; rintro e w' ⟨rfl, rfl⟩)
    go_ret
    refine ⟨ret_bool ?_, B1⟩
    go_light
  all_goals rfl

theorem word_wrap_small {x : Int} (h0 : 0 ≤ x) (h1 : x < 9223372036854775808) : wrap64 x = x := by unfold wrap64; omega
theorem word_in_small {x : Int} (b : Int) (h0 : 0 ≤ x) (h1 : x < 18446744073709551616) (hb : 0 ≤ b) (hb' : b < 9223372036854775808) : inB (wrap64 x) 0 b = decide (x ≤ b) := by
  unfold inB
  rw [decide_eq_decide]
  unfold wrap64
  omega
theorem l2StrOk_at (aw : Option Addr) (cw : Nat) (ws : List Int) (semi toh top : Int) (cyc : Bool) (scan old copied serial : Int) (ar : Option Addr) (cr : Nat) (rs : List (Int × Int)) (x s : Int) (p : Nat) (w : World) (hx : x = p) (hs : Sl w (.slice aw ws.length cw) ws) (hn : ws.length ≤ 1048576) (hw : Words64 ws) (s0 : 1 ≤ s) (s1 : s ≤ 65535) (h : p + s.toNat < ws.length) :
    Calls Tryz.prog 80 #[.agg #[.slice aw ws.length cw, .int .i64 semi, .int .i64 toh, .int .i64 top, .bool cyc, .int .i64 scan, .int .i64 old, .int .i64 copied, .int .i64 serial, .slice ar rs.length cr], .int .i64 x, .int .i64 s] w fun e w' => e = .returned (.bool (strOk ws p s)) ∧ Below w.heap.size w w' := by
  have hz := word_in hw (p + 1)
  by_cases hf : wordAt ws (p + 1) ≤ 160
  · have hwz : wrap64 (wordAt ws (p + 1)) = wordAt ws (p + 1) := word_wrap_small hz.1 (by omega)
    have hf' : inB (wordAt ws (p + 1)) 0 160 = true := decide_eq_true ⟨hz.1, hf⟩
    have hd : (wordAt ws (p + 1) + 7).tdiv 8 = (wordAt ws (p + 1) + 7) / 8 := Int.tdiv_eq_ediv_of_nonneg (by omega)
    have hl : (wordAt ws (p + 1)).tmod 8 = wordAt ws (p + 1) % 8 := Int.tmod_eq_emod_of_nonneg (by omega)
    by_cases he : s = 1 + (wordAt ws (p + 1) + 7) / 8
    · have he' : (s != 1 + (wordAt ws (p + 1) + 7) / 8) = false := by simpa using he
      by_cases h8 : wordAt ws (p + 1) % 8 = 0
      · have := l2StrOk_even aw cw ws semi toh top cyc scan old copied serial ar cr rs x s _ _ p w hx hs hn hw (by omega) hwz hf' hz.1 hf hd (by omega) (by omega) he' (by omega)
        have e : strOk ws p s = true := decide_eq_true ⟨hf, he, .inl h8⟩
        rw [e]; exact this
      · obtain ⟨b, off, rfl, hl', hc⟩ := arena_opened hs (k := p) (by omega)
        have hy := word_in hw (p + s.toNat)
        have := l2StrOk_odd b off cw ws semi toh top cyc scan old copied serial ar cr rs x s _ _ _ (wordAt ws (p + s.toNat)) p w hx hs hn hw (by omega) hwz hf' hz.1 hf hd (by omega) (by omega) he' hl (by omega) (by omega) (by omega) (by omega) (by omega) (by omega) (by omega) hy.1 hy.2 (fun W hW => by
          have := hc (p + s.toNat) h (.cells #[] 0)
          rw [World.cell?_alloc_lt w _ ⟨b, off + (p + s.toNat), none⟩ hl'] at this
          rw [show (x + s).toNat = p + s.toNat by omega, hW.cell (p := ⟨b, off + (p + s.toNat), none⟩) hl']
          exact this)
        have e : strOk ws p s = decide (wordAt ws (p + s.toNat) / 2 ^ (8 * (wordAt ws (p + 1) % 8)).toNat = 0) := by
          unfold strOk
          rw [decide_eq_decide]
          exact ⟨fun g => g.2.2.resolve_left h8, fun g => ⟨hf, he, .inr g⟩⟩
        rw [e]; exact this
    · have he' : (s != 1 + (wordAt ws (p + 1) + 7) / 8) = true := by simpa using he
      have := l2StrOk_size aw cw ws semi toh top cyc scan old copied serial ar cr rs x s _ _ p w hx hs hn hw (by omega) hwz hf' hz.1 hf hd (by omega) (by omega) he'
      have e : strOk ws p s = false := decide_eq_false fun g => he g.2.1
      rw [e]; exact this
  · have := l2StrOk_far aw cw ws semi toh top cyc scan old copied serial ar cr rs x s _ p w hx hs hn hw (by omega) rfl (by rw [word_in_small 160 hz.1 hz.2 (by omega) (by omega)]; exact decide_eq_false hf)
    have e : strOk ws p s = false := decide_eq_false fun g => hf g.1
    rw [e]; exact this
end Go.Proofs.YtdcniiihanjjnaaGreat
