/- Is there such a Root: l2Root, hasRoot. -/
import Derived.Test.YtaapiedminakcaaGreatProg
import Derived.Test.YtaapiedminakcaaGreatKLawC
import Derived.Test.YtaapiedminakcaaGreatKHeadL
namespace Go.Proofs.YtaapiedminakcaaGreat
set_option maxRecDepth 20000
open Go.RowKit
set_option linter.unusedSimpArgs false
set_option linter.unusedVariables false

/-- Is there such a Root? -/
def hasR (r : Int) (n : Nat) : Bool := decide (0 ≤ r ∧ r < n)
theorem l2Root_any (aw : Option Addr) (cw : Nat) (ws : List Int) (semi toh top : Int) (cyc : Bool) (scan old copied serial : Int) (ar : Option Addr) (cr : Nat) (rs : List (Int × Int)) (r : Int) (w : World) (hn2 : rs.length ≤ 1048576) :
    Calls Tryz.prog 88 #[.agg #[.slice aw ws.length cw, .int .i64 semi, .int .i64 toh, .int .i64 top, .bool cyc, .int .i64 scan, .int .i64 old, .int .i64 copied, .int .i64 serial, .slice ar rs.length cr], .int .i64 r] w fun e w' => e = .returned (.bool (hasR r rs.length)) ∧ Below w.heap.size w w' := by
  have h1 : inB r 0 ((rs.length : Int) - 1) = hasR r rs.length := by
    unfold inB hasR
    rw [decide_eq_decide]
    omega
  go_enter Tryz.func88, Tryz.ntmps88
  go_wp2_with (go_at_call 122; refine (l1In_any _ _ _ _).mono ?_; rintro e w' ⟨rfl, rfl⟩)
  go_ret
  exact ⟨rfl, below_first (Below.refl _ _)⟩
theorem hasRoot_any (aw : Option Addr) (cw : Nat) (ws : List Int) (semi toh top : Int) (cyc : Bool) (scan old copied serial : Int) (ar : Option Addr) (cr : Nat) (rs : List (Int × Int)) (r : Int) (w : World) (hn2 : rs.length ≤ 1048576) :
    Calls Tryz.prog 91 #[.agg #[.slice aw ws.length cw, .int .i64 semi, .int .i64 toh, .int .i64 top, .bool cyc, .int .i64 scan, .int .i64 old, .int .i64 copied, .int .i64 serial, .slice ar rs.length cr], .int .i64 r] w fun e w' => e = .returned (.bool (hasR r rs.length)) ∧ Below w.heap.size w w' := by
  by_cases h0 : 0 ≤ r
  · by_cases h1 : r < rs.length
    · have e : hasR r rs.length = true := decide_eq_true ⟨h0, h1⟩
      rw [e]
      go_enter Tryz.func91, Tryz.ntmps91
      go_wp2
      go_ret
      exact ⟨rfl, below_first (Below.refl _ _)⟩
    · have e : hasR r rs.length = false := decide_eq_false (fun g => h1 g.2)
      rw [e]
      have h1' : decide (r < (rs.length : Int)) = false := decide_eq_false h1
      clear h1
      go_enter Tryz.func91, Tryz.ntmps91
      go_wp2
      go_ret
      exact ⟨rfl, below_first (Below.refl _ _)⟩
  · have e : hasR r rs.length = false := decide_eq_false (fun g => h0 g.1)
    rw [e]
    have h0' : decide (0 ≤ r) = false := decide_eq_false h0
    clear h0
    go_enter Tryz.func91, Tryz.ntmps91
    go_wp2
    go_ret
    exact ⟨rfl, below_first (Below.refl _ _)⟩
end Go.Proofs.YtaapiedminakcaaGreat

/- What a Root of a right arena is. No Go here. -/
namespace Go.Proofs.YtaapiedminakcaaGreat
set_option maxRecDepth 20000
open Go.RowKit
set_option linter.unusedSimpArgs false
set_option linter.unusedVariables false

theorem rdS_pos {x : Int} (h : rdOk x = true) : 1 ≤ rdS x := by
  have h2 := rd_sOk h
  rcases sOk_kinds h2 with g | g | g | g | g | g <;> omega
/-- A Root that is a reference leads to an object of the half in use, of its kind. -/
theorem ar_root {ws : List Int} {semi toh top : Int} {cyc : Bool} {scan old copied serial : Int} {y : Nat → Int} {rl : Nat} (hw : Words64 ws) (hok : ArOk ws semi toh top cyc scan old copied serial y rl) {i : Nat} (hi : i < rl) (hr : isR (y (2 * i)) = true) :
    ∃ p : Nat, y (2 * i + 1) = (p : Int) ∧ rdOk (wordAt ws p) = true ∧ rdK (wordAt ws p) = kindOf (y (2 * i)) ∧ p + 1 < ws.length ∧ leadsAt ws p = p ∧ (y (2 * i) = 3 → TextIn ws p) := by
  obtain ⟨s0, s1, hl, t0, t1, hrl, h1, h2, hold⟩ := num_facts hok.1
  obtain ⟨g1, g2, g3, g4, g5⟩ := num_halves s0 s1 hl t0 t1 h1 h2
  obtain ⟨L, O, ht, _, hobj, _, hroots⟩ := hok.2
  have hlaid := ar_laid hok (S := (toh * semi + 1).toNat) (T := top.toNat) (F := ((1 - toh) * semi + 1).toNat) (by omega) (by omega) (by omega) ht
  have hk := ht.known hlaid.Tn hlaid.On hlaid.ap hobj
  obtain ⟨hv, _, hlead⟩ := hroots i hi
  obtain ⟨hm, hfr, hkd⟩ := hlead hr
  have hm0 : 0 < y (2 * i + 1) := by
    have h3 := of_decide_eq_true hv
    have h4 := of_decide_eq_true hr
    omega
  have hmk : mk2 ws L O (y (2 * i + 1)).toNat = 1 := by
    unfold fromOk at hfr
    simp at hfr
    exact hfr
  have hob : isObj (mk2 ws L O) (y (2 * i + 1)).toNat := .inl hmk
  obtain ⟨hrd, hin⟩ := hk.within _ hob
  have hle := leadsAt_head hrd
  have hpos := rdS_pos hrd
  rw [hle, Int.toNat_natCast] at hkd
  refine ⟨(y (2 * i + 1)).toNat, by omega, hrd, hkd, by omega, hle, fun h3 => ?_⟩
  refine hk.text hw hob ?_
  rw [h3] at hkd
  simpa [kindOf] using hkd
end Go.Proofs.YtaapiedminakcaaGreat

/- ProtoOf and SerialOf of both packages. -/
namespace Go.Proofs.YtaapiedminakcaaGreat
set_option maxRecDepth 20000
open Go.RowKit
set_option linter.unusedSimpArgs false
set_option linter.unusedVariables false

set_option maxHeartbeats 2000000 in
theorem specProtoOf_w0 (aw : Option Addr) (cw : Nat) (ws : List Int) (semi toh top : Int) (cyc : Bool) (scan old copied serial : Int) (ar : Option Addr) (cr : Nat) (rs : List (Int × Int)) (r : Int) (y : Nat → Int) (Tr : Nat) (w : World) (hs : Sl w (.slice aw ws.length cw) ws) (hn : ws.length ≤ 1048576) (hw : Words64 ws) (hrt : SlF Tr w (.slice ar rs.length cr) rs.length (2 * rs.length) (fun i => .int .i64 (y i))) (hn2 : rs.length ≤ 1048576) (hok : ¬ ArOk ws semi toh top cyc scan old copied serial y rs.length) :
    Calls Tryz.prog 42 #[.agg #[.slice aw ws.length cw, .int .i64 semi, .int .i64 toh, .int .i64 top, .bool cyc, .int .i64 scan, .int .i64 old, .int .i64 copied, .int .i64 serial, .slice ar rs.length cr], .int .i64 r] w fun e w' => e = .returned (.tuple #[.int .i64 0, .bool false]) ∧ Below w.heap.size w w' := by
  have HS : Hid (Sl w (.slice aw ws.length cw) ws) := hs
  have HR : Hid (SlF w.heap.size w (.slice ar rs.length cr) rs.length (2 * rs.length) (fun i => .int .i64 (y i))) := hrt.here
  have HQ : Hid (¬ ArOk ws semi toh top cyc scan old copied serial y rs.length) := hok
  clear hs hrt hok
  go_enter Tryz.func42, Tryz.ntmps42
  go_wp2_with fail
  refine (specArenaOk_at _ _ _ _ _ _ _ _ _ _ _ _ _ _ y w.heap.size _ (HS.out.below (below_first (Below.refl _ _))) hn hw (HR.out.below (below_first (Below.refl _ _)) (Nat.le_refl _)) hn2).mono ?_
  rintro e w1 ⟨q, rfl, hq, b1⟩
  obtain rfl : q = false := by
    cases q with
    | false => rfl
    | true => exact absurd (hq.1 rfl) HQ.out
  have k1 := one_cells b1 (by simp)
  have B1 := below_first b1
  have z1 := size_first b1
  clear b1 hq
  go_wp2
  refine bodyPost_ret (v := .tuple #[.int .i64 0, .bool false]) (by simp [results, Tryz.results42, go_sem]) rfl ⟨rfl, B1⟩
set_option maxHeartbeats 2000000 in
theorem specProtoOf_w1 (aw : Option Addr) (cw : Nat) (ws : List Int) (semi toh top : Int) (cyc : Bool) (scan old copied serial : Int) (ar : Option Addr) (cr : Nat) (rs : List (Int × Int)) (r : Int) (y : Nat → Int) (Tr : Nat) (w : World) (hs : Sl w (.slice aw ws.length cw) ws) (hn : ws.length ≤ 1048576) (hw : Words64 ws) (hrt : SlF Tr w (.slice ar rs.length cr) rs.length (2 * rs.length) (fun i => .int .i64 (y i))) (hn2 : rs.length ≤ 1048576) (hok : ArOk ws semi toh top cyc scan old copied serial y rs.length) (hr : hasR r rs.length = false) :
    Calls Tryz.prog 42 #[.agg #[.slice aw ws.length cw, .int .i64 semi, .int .i64 toh, .int .i64 top, .bool cyc, .int .i64 scan, .int .i64 old, .int .i64 copied, .int .i64 serial, .slice ar rs.length cr], .int .i64 r] w fun e w' => e = .returned (.tuple #[.int .i64 0, .bool false]) ∧ Below w.heap.size w w' := by
  have HS : Hid (Sl w (.slice aw ws.length cw) ws) := hs
  have HR : Hid (SlF w.heap.size w (.slice ar rs.length cr) rs.length (2 * rs.length) (fun i => .int .i64 (y i))) := hrt.here
  have HQ : Hid (ArOk ws semi toh top cyc scan old copied serial y rs.length) := hok
  clear hs hrt hok
  go_enter Tryz.func42, Tryz.ntmps42
  go_wp2_with fail
  refine (specArenaOk_at _ _ _ _ _ _ _ _ _ _ _ _ _ _ y w.heap.size _ (HS.out.below (below_first (Below.refl _ _))) hn hw (HR.out.below (below_first (Below.refl _ _)) (Nat.le_refl _)) hn2).mono ?_
  rintro e w1 ⟨q, rfl, hq, b1⟩
  obtain rfl := hq.2 HQ.out
  have k1 := one_cells b1 (by simp)
  have B1 := below_first b1
  have z1 := size_first b1
  clear b1 hq
  go_wp2_with fail
  refine (l2Root_any _ _ _ _ _ _ _ _ _ _ _ _ _ _ _ _ hn2).mono ?_
  rintro e w2 ⟨rfl, b2⟩
  rw [hr]
  have k2 := has_below k1 b2 z1
  have B2 := below_next B1 b2
  have z2 := Nat.lt_of_lt_of_le z1 b2.size
  clear b2 k1 B1 z1
  go_wp2
  refine bodyPost_ret (v := .tuple #[.int .i64 0, .bool false]) (by simp [results, Tryz.results42, go_sem]) rfl ⟨rfl, B2⟩
set_option maxHeartbeats 2000000 in
theorem specProtoOf_w2 (aw : Option Addr) (cw : Nat) (ws : List Int) (semi toh top : Int) (cyc : Bool) (scan old copied serial : Int) (ar : Option Addr) (cr : Nat) (rs : List (Int × Int)) (r : Nat) (y : Nat → Int) (Tr : Nat) (w : World) (hs : Sl w (.slice aw ws.length cw) ws) (hn : ws.length ≤ 1048576) (hw : Words64 ws) (hrt : SlF Tr w (.slice ar rs.length cr) rs.length (2 * rs.length) (fun i => .int .i64 (y i))) (hn2 : rs.length ≤ 1048576) (hok : ArOk ws semi toh top cyc scan old copied serial y rs.length) (hr : r < rs.length) (ht : y (2 * r) ≠ 5) :
    Calls Tryz.prog 42 #[.agg #[.slice aw ws.length cw, .int .i64 semi, .int .i64 toh, .int .i64 top, .bool cyc, .int .i64 scan, .int .i64 old, .int .i64 copied, .int .i64 serial, .slice ar rs.length cr], .int .i64 r] w fun e w' => e = .returned (.tuple #[.int .i64 0, .bool false]) ∧ Below w.heap.size w w' := by
  have HS : Hid (Sl w (.slice aw ws.length cw) ws) := hs
  have HR : Hid (SlF w.heap.size w (.slice ar rs.length cr) rs.length (2 * rs.length) (fun i => .int .i64 (y i))) := hrt.here
  have HQ : Hid (ArOk ws semi toh top cyc scan old copied serial y rs.length) := hok
  clear hs hrt hok
  obtain ⟨t, hty⟩ : ∃ t : Int, t = y (2 * r) := ⟨_, rfl⟩
  obtain ⟨m, hmy⟩ : ∃ m : Int, m = y (2 * r + 1) := ⟨_, rfl⟩
  rw [← hty] at ht
  have HTY : Hid (t = y (2 * r)) := hty
  have HMY : Hid (m = y (2 * r + 1)) := hmy
  clear hty hmy
  go_enter Tryz.func42, Tryz.ntmps42
  go_wp2_with fail
  refine (specArenaOk_at _ _ _ _ _ _ _ _ _ _ _ _ _ _ y w.heap.size _ (HS.out.below (below_first (Below.refl _ _))) hn hw (HR.out.below (below_first (Below.refl _ _)) (Nat.le_refl _)) hn2).mono ?_
  rintro e w1 ⟨q, rfl, hq, b1⟩
  obtain rfl := hq.2 HQ.out
  have k1 := one_cells b1 (by simp)
  have B1 := below_first b1
  have z1 := size_first b1
  clear b1 hq
  go_wp2_with fail
  refine (l2Root_any _ _ _ _ _ _ _ _ _ _ _ _ _ _ _ _ hn2).mono ?_
  rintro e w2 ⟨rfl, b2⟩
  rw [show hasR (r : Int) rs.length = true from decide_eq_true ⟨by omega, by omega⟩]
  have k2 := has_below k1 b2 z1
  have B2 := below_next B1 b2
  have z2 := Nat.lt_of_lt_of_le z1 b2.size
  clear b2 k1 B1 z1
  obtain ⟨br, offr, cap', hv, _, lbr, hcr⟩ := HR.out.parts (k := 0) (by omega)
  simp only [Value.slice.injEq] at hv
  obtain ⟨rfl, _, rfl⟩ := hv
  have x0 : w2.cell? ⟨br, offr + r * 2, none⟩ = some (.int .i64 t) := by rw [B2.cell (p := ⟨br, offr + r * 2, none⟩) lbr, Nat.mul_comm, HTY.out]; exact hcr (2 * r) (by omega)
  have x1 : w2.cell? ⟨br, offr + r * 2 + 1, none⟩ = some (.int .i64 m) := by rw [B2.cell (p := ⟨br, offr + r * 2 + 1, none⟩) lbr, Nat.mul_comm, HMY.out]; exact hcr (2 * r + 1) (by omega)
  have hr' : (r : Int) < (rs.length : Int) := by omega
  clear hcr
  have hne : (t != 5) = true := by simpa using ht
  clear ht
  go_wp2_with fail
  go_wp2
  refine bodyPost_ret (v := .tuple #[.int .i64 0, .bool false]) (by simp [results, Tryz.results42, go_sem]) rfl ⟨rfl, B2⟩
set_option maxHeartbeats 2000000 in
theorem specProtoOf_w3 (aw : Option Addr) (cw : Nat) (ws : List Int) (semi toh top : Int) (cyc : Bool) (scan old copied serial : Int) (ar : Option Addr) (cr : Nat) (rs : List (Int × Int)) (r p : Nat) (y : Nat → Int) (Tr : Nat) (w : World) (hs : Sl w (.slice aw ws.length cw) ws) (hn : ws.length ≤ 1048576) (hw : Words64 ws) (hrt : SlF Tr w (.slice ar rs.length cr) rs.length (2 * rs.length) (fun i => .int .i64 (y i))) (hn2 : rs.length ≤ 1048576) (hok : ArOk ws semi toh top cyc scan old copied serial y rs.length) (hr : r < rs.length) (ht : y (2 * r) = 5) (hp : y (2 * r + 1) = (p : Int)) (hpn : p + 1 < ws.length) :
    Calls Tryz.prog 42 #[.agg #[.slice aw ws.length cw, .int .i64 semi, .int .i64 toh, .int .i64 top, .bool cyc, .int .i64 scan, .int .i64 old, .int .i64 copied, .int .i64 serial, .slice ar rs.length cr], .int .i64 r] w fun e w' => e = .returned (.tuple #[.int .i64 (wrap64 (wordAt ws (p + 1))), .bool true]) ∧ Below w.heap.size w w' := by
  have HS : Hid (Sl w (.slice aw ws.length cw) ws) := hs
  have HR : Hid (SlF w.heap.size w (.slice ar rs.length cr) rs.length (2 * rs.length) (fun i => .int .i64 (y i))) := hrt.here
  have HQ : Hid (ArOk ws semi toh top cyc scan old copied serial y rs.length) := hok
  clear hs hrt hok
  obtain ⟨t, hty⟩ : ∃ t : Int, t = y (2 * r) := ⟨_, rfl⟩
  obtain ⟨m, hmy⟩ : ∃ m : Int, m = y (2 * r + 1) := ⟨_, rfl⟩
  rw [← hty] at ht
  have HTY : Hid (t = y (2 * r)) := hty
  have HMY : Hid (m = y (2 * r + 1)) := hmy
  rw [← hmy] at hp
  clear hty hmy
  go_enter Tryz.func42, Tryz.ntmps42
  go_wp2_with fail
  refine (specArenaOk_at _ _ _ _ _ _ _ _ _ _ _ _ _ _ y w.heap.size _ (HS.out.below (below_first (Below.refl _ _))) hn hw (HR.out.below (below_first (Below.refl _ _)) (Nat.le_refl _)) hn2).mono ?_
  rintro e w1 ⟨q, rfl, hq, b1⟩
  obtain rfl := hq.2 HQ.out
  have k1 := one_cells b1 (by simp)
  have B1 := below_first b1
  have z1 := size_first b1
  clear b1 hq
  go_wp2_with fail
  refine (l2Root_any _ _ _ _ _ _ _ _ _ _ _ _ _ _ _ _ hn2).mono ?_
  rintro e w2 ⟨rfl, b2⟩
  rw [show hasR (r : Int) rs.length = true from decide_eq_true ⟨by omega, by omega⟩]
  have k2 := has_below k1 b2 z1
  have B2 := below_next B1 b2
  have z2 := Nat.lt_of_lt_of_le z1 b2.size
  clear b2 k1 B1 z1
  obtain ⟨br, offr, cap', hv, _, lbr, hcr⟩ := HR.out.parts (k := 0) (by omega)
  simp only [Value.slice.injEq] at hv
  obtain ⟨rfl, _, rfl⟩ := hv
  have x0 : w2.cell? ⟨br, offr + r * 2, none⟩ = some (.int .i64 t) := by rw [B2.cell (p := ⟨br, offr + r * 2, none⟩) lbr, Nat.mul_comm, HTY.out]; exact hcr (2 * r) (by omega)
  have x1 : w2.cell? ⟨br, offr + r * 2 + 1, none⟩ = some (.int .i64 m) := by rw [B2.cell (p := ⟨br, offr + r * 2 + 1, none⟩) lbr, Nat.mul_comm, HMY.out]; exact hcr (2 * r + 1) (by omega)
  have hr' : (r : Int) < (rs.length : Int) := by omega
  clear hcr
  subst ht hp
  have S2 := HS.out.below B2
  have lbw : br < w2.heap.size := Nat.lt_of_lt_of_le lbr B2.size
  have KP : ∀ V, Below w2.heap.size w2 V → (Below w2.heap.size w2 V ∧ (∀ i, V.cell? ⟨w.heap.size, i, none⟩ = (#[.slice aw ws.length cw, .int .i64 semi, .int .i64 toh, .int .i64 top, .bool cyc, .int .i64 scan, .int .i64 old, .int .i64 copied, .int .i64 serial, .slice (some ⟨br, offr, none⟩) rs.length cr] : Array Value)[i]?) ∧ V.cell? ⟨br, offr + r * 2, none⟩ = some (.int .i64 5) ∧ V.cell? ⟨br, offr + r * 2 + 1, none⟩ = some (.int .i64 (p : Int))) := fun V hV => ⟨hV, has_below k2 hV z2, by rw [hV.cell (p := ⟨br, offr + r * 2, none⟩) lbw]; exact x0, by rw [hV.cell (p := ⟨br, offr + r * 2 + 1, none⟩) lbw]; exact x1⟩
  have bd' := (Below.refl w2.heap.size w2).drew
  go_wp2_with fail
  go_region_held3 (fun V => Below w2.heap.size w2 V ∧ (∀ i, V.cell? ⟨w.heap.size, i, none⟩ = (#[.slice aw ws.length cw, .int .i64 semi, .int .i64 toh, .int .i64 top, .bool cyc, .int .i64 scan, .int .i64 old, .int .i64 copied, .int .i64 serial, .slice (some ⟨br, offr, none⟩) rs.length cr] : Array Value)[i]?) ∧ V.cell? ⟨br, offr + r * 2, none⟩ = some (.int .i64 5) ∧ V.cell? ⟨br, offr + r * 2 + 1, none⟩ = some (.int .i64 (p : Int))) (first | assumption | exact KP _ bd' | exact KP _ (by assumption)) (first | (go_at_call 96; refine (l2Word_any _ _ _ _ _ _ _ _ _ _ _ _ _ _ p 1 _ (HS.out.below (below_next B2 (And.left (by assumption)))) hn hpn).mono ?_; rintro e wl ⟨rfl, bb⟩; have hBl := below_next (w := w2) (And.left (by assumption)) bb; clear bb))
  all_goals
    go_wp2
    refine bodyPost_ret (v := .tuple #[.int .i64 (wrap64 (wordAt ws (p + 1))), .bool true]) (by simp [results, Tryz.results42, go_sem]) rfl ⟨rfl, below_next B2 hBl⟩
set_option maxHeartbeats 2000000 in
theorem implProtoOf_w0 (aw : Option Addr) (cw : Nat) (ws : List Int) (semi toh top : Int) (cyc : Bool) (scan old copied serial : Int) (ar : Option Addr) (cr : Nat) (rs : List (Int × Int)) (r : Int) (y : Nat → Int) (Tr : Nat) (w : World) (hs : Sl w (.slice aw ws.length cw) ws) (hcw : ws.length ≤ cw) (hn : ws.length ≤ 1048576) (hw : Words64 ws) (hrt : SlF Tr w (.slice ar rs.length cr) rs.length (2 * rs.length) (fun i => .int .i64 (y i))) (hn2 : rs.length ≤ 1048576) (hok : ¬ ArOk ws semi toh top cyc scan old copied serial y rs.length) :
    Calls Tryz.prog 43 #[.agg #[.slice aw ws.length cw, .int .i64 semi, .int .i64 toh, .int .i64 top, .bool cyc, .int .i64 scan, .int .i64 old, .int .i64 copied, .int .i64 serial, .slice ar rs.length cr], .int .i64 r] w fun e w' => e = .returned (.tuple #[.int .i64 0, .bool false]) ∧ Below w.heap.size w w' := by
  have HS : Hid (Sl w (.slice aw ws.length cw) ws) := hs
  have HR : Hid (SlF w.heap.size w (.slice ar rs.length cr) rs.length (2 * rs.length) (fun i => .int .i64 (y i))) := hrt.here
  have HQ : Hid (¬ ArOk ws semi toh top cyc scan old copied serial y rs.length) := hok
  clear hs hrt hok
  go_enter Tryz.func43, Tryz.ntmps43
  go_wp2_with fail
  refine (implArenaOk_at _ _ _ _ _ _ _ _ _ _ _ _ _ _ y w.heap.size _ (HS.out.below (below_first (Below.refl _ _))) hcw hn hw (HR.out.below (below_first (Below.refl _ _)) (Nat.le_refl _)) hn2).mono ?_
  rintro e w1 ⟨q, rfl, hq, b1⟩
  obtain rfl : q = false := by
    cases q with
    | false => rfl
    | true => exact absurd (hq.1 rfl) HQ.out
  have k1 := one_cells b1 (by simp)
  have B1 := below_first b1
  have z1 := size_first b1
  clear b1 hq
  go_wp2
  refine bodyPost_ret (v := .tuple #[.int .i64 0, .bool false]) (by simp [results, Tryz.results43, go_sem]) rfl ⟨rfl, B1⟩
set_option maxHeartbeats 2000000 in
theorem implProtoOf_w1 (aw : Option Addr) (cw : Nat) (ws : List Int) (semi toh top : Int) (cyc : Bool) (scan old copied serial : Int) (ar : Option Addr) (cr : Nat) (rs : List (Int × Int)) (r : Int) (y : Nat → Int) (Tr : Nat) (w : World) (hs : Sl w (.slice aw ws.length cw) ws) (hcw : ws.length ≤ cw) (hn : ws.length ≤ 1048576) (hw : Words64 ws) (hrt : SlF Tr w (.slice ar rs.length cr) rs.length (2 * rs.length) (fun i => .int .i64 (y i))) (hn2 : rs.length ≤ 1048576) (hok : ArOk ws semi toh top cyc scan old copied serial y rs.length) (hr : hasR r rs.length = false) :
    Calls Tryz.prog 43 #[.agg #[.slice aw ws.length cw, .int .i64 semi, .int .i64 toh, .int .i64 top, .bool cyc, .int .i64 scan, .int .i64 old, .int .i64 copied, .int .i64 serial, .slice ar rs.length cr], .int .i64 r] w fun e w' => e = .returned (.tuple #[.int .i64 0, .bool false]) ∧ Below w.heap.size w w' := by
  have HS : Hid (Sl w (.slice aw ws.length cw) ws) := hs
  have HR : Hid (SlF w.heap.size w (.slice ar rs.length cr) rs.length (2 * rs.length) (fun i => .int .i64 (y i))) := hrt.here
  have HQ : Hid (ArOk ws semi toh top cyc scan old copied serial y rs.length) := hok
  clear hs hrt hok
  go_enter Tryz.func43, Tryz.ntmps43
  go_wp2_with fail
  refine (implArenaOk_at _ _ _ _ _ _ _ _ _ _ _ _ _ _ y w.heap.size _ (HS.out.below (below_first (Below.refl _ _))) hcw hn hw (HR.out.below (below_first (Below.refl _ _)) (Nat.le_refl _)) hn2).mono ?_
  rintro e w1 ⟨q, rfl, hq, b1⟩
  obtain rfl := hq.2 HQ.out
  have k1 := one_cells b1 (by simp)
  have B1 := below_first b1
  have z1 := size_first b1
  clear b1 hq
  go_wp2_with fail
  refine (hasRoot_any _ _ _ _ _ _ _ _ _ _ _ _ _ _ _ _ hn2).mono ?_
  rintro e w2 ⟨rfl, b2⟩
  rw [hr]
  have k2 := has_below k1 b2 z1
  have B2 := below_next B1 b2
  have z2 := Nat.lt_of_lt_of_le z1 b2.size
  clear b2 k1 B1 z1
  go_wp2
  refine bodyPost_ret (v := .tuple #[.int .i64 0, .bool false]) (by simp [results, Tryz.results43, go_sem]) rfl ⟨rfl, B2⟩
set_option maxHeartbeats 2000000 in
theorem implProtoOf_w2 (aw : Option Addr) (cw : Nat) (ws : List Int) (semi toh top : Int) (cyc : Bool) (scan old copied serial : Int) (ar : Option Addr) (cr : Nat) (rs : List (Int × Int)) (r : Nat) (y : Nat → Int) (Tr : Nat) (w : World) (hs : Sl w (.slice aw ws.length cw) ws) (hcw : ws.length ≤ cw) (hn : ws.length ≤ 1048576) (hw : Words64 ws) (hrt : SlF Tr w (.slice ar rs.length cr) rs.length (2 * rs.length) (fun i => .int .i64 (y i))) (hn2 : rs.length ≤ 1048576) (hok : ArOk ws semi toh top cyc scan old copied serial y rs.length) (hr : r < rs.length) (ht : y (2 * r) ≠ 5) :
    Calls Tryz.prog 43 #[.agg #[.slice aw ws.length cw, .int .i64 semi, .int .i64 toh, .int .i64 top, .bool cyc, .int .i64 scan, .int .i64 old, .int .i64 copied, .int .i64 serial, .slice ar rs.length cr], .int .i64 r] w fun e w' => e = .returned (.tuple #[.int .i64 0, .bool false]) ∧ Below w.heap.size w w' := by
  have HS : Hid (Sl w (.slice aw ws.length cw) ws) := hs
  have HR : Hid (SlF w.heap.size w (.slice ar rs.length cr) rs.length (2 * rs.length) (fun i => .int .i64 (y i))) := hrt.here
  have HQ : Hid (ArOk ws semi toh top cyc scan old copied serial y rs.length) := hok
  clear hs hrt hok
  obtain ⟨t, hty⟩ : ∃ t : Int, t = y (2 * r) := ⟨_, rfl⟩
  obtain ⟨m, hmy⟩ : ∃ m : Int, m = y (2 * r + 1) := ⟨_, rfl⟩
  rw [← hty] at ht
  have HTY : Hid (t = y (2 * r)) := hty
  have HMY : Hid (m = y (2 * r + 1)) := hmy
  clear hty hmy
  go_enter Tryz.func43, Tryz.ntmps43
  go_wp2_with fail
  refine (implArenaOk_at _ _ _ _ _ _ _ _ _ _ _ _ _ _ y w.heap.size _ (HS.out.below (below_first (Below.refl _ _))) hcw hn hw (HR.out.below (below_first (Below.refl _ _)) (Nat.le_refl _)) hn2).mono ?_
  rintro e w1 ⟨q, rfl, hq, b1⟩
  obtain rfl := hq.2 HQ.out
  have k1 := one_cells b1 (by simp)
  have B1 := below_first b1
  have z1 := size_first b1
  clear b1 hq
  go_wp2_with fail
  refine (hasRoot_any _ _ _ _ _ _ _ _ _ _ _ _ _ _ _ _ hn2).mono ?_
  rintro e w2 ⟨rfl, b2⟩
  rw [show hasR (r : Int) rs.length = true from decide_eq_true ⟨by omega, by omega⟩]
  have k2 := has_below k1 b2 z1
  have B2 := below_next B1 b2
  have z2 := Nat.lt_of_lt_of_le z1 b2.size
  clear b2 k1 B1 z1
  obtain ⟨br, offr, cap', hv, _, lbr, hcr⟩ := HR.out.parts (k := 0) (by omega)
  simp only [Value.slice.injEq] at hv
  obtain ⟨rfl, _, rfl⟩ := hv
  have x0 : w2.cell? ⟨br, offr + r * 2, none⟩ = some (.int .i64 t) := by rw [B2.cell (p := ⟨br, offr + r * 2, none⟩) lbr, Nat.mul_comm, HTY.out]; exact hcr (2 * r) (by omega)
  have x1 : w2.cell? ⟨br, offr + r * 2 + 1, none⟩ = some (.int .i64 m) := by rw [B2.cell (p := ⟨br, offr + r * 2 + 1, none⟩) lbr, Nat.mul_comm, HMY.out]; exact hcr (2 * r + 1) (by omega)
  have hr' : (r : Int) < (rs.length : Int) := by omega
  clear hcr
  have hne : (t != 5) = true := by simpa using ht
  clear ht
  go_wp2_with fail
  go_wp2
  refine bodyPost_ret (v := .tuple #[.int .i64 0, .bool false]) (by simp [results, Tryz.results43, go_sem]) rfl ⟨rfl, B2⟩
set_option maxHeartbeats 2000000 in
theorem implProtoOf_w3 (aw : Option Addr) (cw : Nat) (ws : List Int) (semi toh top : Int) (cyc : Bool) (scan old copied serial : Int) (ar : Option Addr) (cr : Nat) (rs : List (Int × Int)) (r p : Nat) (y : Nat → Int) (Tr : Nat) (w : World) (hs : Sl w (.slice aw ws.length cw) ws) (hcw : ws.length ≤ cw) (hn : ws.length ≤ 1048576) (hw : Words64 ws) (hrt : SlF Tr w (.slice ar rs.length cr) rs.length (2 * rs.length) (fun i => .int .i64 (y i))) (hn2 : rs.length ≤ 1048576) (hok : ArOk ws semi toh top cyc scan old copied serial y rs.length) (hr : r < rs.length) (ht : y (2 * r) = 5) (hp : y (2 * r + 1) = (p : Int)) (hpn : p + 1 < ws.length) :
    Calls Tryz.prog 43 #[.agg #[.slice aw ws.length cw, .int .i64 semi, .int .i64 toh, .int .i64 top, .bool cyc, .int .i64 scan, .int .i64 old, .int .i64 copied, .int .i64 serial, .slice ar rs.length cr], .int .i64 r] w fun e w' => e = .returned (.tuple #[.int .i64 (wrap64 (wordAt ws (p + 1))), .bool true]) ∧ Below w.heap.size w w' := by
  have HS : Hid (Sl w (.slice aw ws.length cw) ws) := hs
  have HR : Hid (SlF w.heap.size w (.slice ar rs.length cr) rs.length (2 * rs.length) (fun i => .int .i64 (y i))) := hrt.here
  have HQ : Hid (ArOk ws semi toh top cyc scan old copied serial y rs.length) := hok
  clear hs hrt hok
  obtain ⟨t, hty⟩ : ∃ t : Int, t = y (2 * r) := ⟨_, rfl⟩
  obtain ⟨m, hmy⟩ : ∃ m : Int, m = y (2 * r + 1) := ⟨_, rfl⟩
  rw [← hty] at ht
  have HTY : Hid (t = y (2 * r)) := hty
  have HMY : Hid (m = y (2 * r + 1)) := hmy
  rw [← hmy] at hp
  clear hty hmy
  go_enter Tryz.func43, Tryz.ntmps43
  go_wp2_with fail
  refine (implArenaOk_at _ _ _ _ _ _ _ _ _ _ _ _ _ _ y w.heap.size _ (HS.out.below (below_first (Below.refl _ _))) hcw hn hw (HR.out.below (below_first (Below.refl _ _)) (Nat.le_refl _)) hn2).mono ?_
  rintro e w1 ⟨q, rfl, hq, b1⟩
  obtain rfl := hq.2 HQ.out
  have k1 := one_cells b1 (by simp)
  have B1 := below_first b1
  have z1 := size_first b1
  clear b1 hq
  go_wp2_with fail
  refine (hasRoot_any _ _ _ _ _ _ _ _ _ _ _ _ _ _ _ _ hn2).mono ?_
  rintro e w2 ⟨rfl, b2⟩
  rw [show hasR (r : Int) rs.length = true from decide_eq_true ⟨by omega, by omega⟩]
  have k2 := has_below k1 b2 z1
  have B2 := below_next B1 b2
  have z2 := Nat.lt_of_lt_of_le z1 b2.size
  clear b2 k1 B1 z1
  obtain ⟨br, offr, cap', hv, _, lbr, hcr⟩ := HR.out.parts (k := 0) (by omega)
  simp only [Value.slice.injEq] at hv
  obtain ⟨rfl, _, rfl⟩ := hv
  have x0 : w2.cell? ⟨br, offr + r * 2, none⟩ = some (.int .i64 t) := by rw [B2.cell (p := ⟨br, offr + r * 2, none⟩) lbr, Nat.mul_comm, HTY.out]; exact hcr (2 * r) (by omega)
  have x1 : w2.cell? ⟨br, offr + r * 2 + 1, none⟩ = some (.int .i64 m) := by rw [B2.cell (p := ⟨br, offr + r * 2 + 1, none⟩) lbr, Nat.mul_comm, HMY.out]; exact hcr (2 * r + 1) (by omega)
  have hr' : (r : Int) < (rs.length : Int) := by omega
  clear hcr
  subst ht hp
  have S2 := HS.out.below B2
  obtain ⟨b, off, rfl, hb, hc⟩ := sl_open S2 (by omega)
  have hx := hc (p + 1) hpn
  have hpn' : (p : Int) + 1 < (ws.length : Int) := by omega
  have hn' : (ws.length : Int) ≤ 1048576 := by omega
  clear hc S2
  go_wp2_with fail
  go_quiet (fail)
  go_wp2
  refine bodyPost_ret (v := .tuple #[.int .i64 (wrap64 (wordAt ws (p + 1))), .bool true]) (by simp [results, Tryz.results43, go_sem]) rfl ⟨rfl, below_drewN B2 _⟩
set_option maxHeartbeats 2000000 in
theorem specSerialOf_w0 (aw : Option Addr) (cw : Nat) (ws : List Int) (semi toh top : Int) (cyc : Bool) (scan old copied serial : Int) (ar : Option Addr) (cr : Nat) (rs : List (Int × Int)) (r : Int) (y : Nat → Int) (Tr : Nat) (w : World) (hs : Sl w (.slice aw ws.length cw) ws) (hn : ws.length ≤ 1048576) (hw : Words64 ws) (hrt : SlF Tr w (.slice ar rs.length cr) rs.length (2 * rs.length) (fun i => .int .i64 (y i))) (hn2 : rs.length ≤ 1048576) (hok : ¬ ArOk ws semi toh top cyc scan old copied serial y rs.length) :
    Calls Tryz.prog 44 #[.agg #[.slice aw ws.length cw, .int .i64 semi, .int .i64 toh, .int .i64 top, .bool cyc, .int .i64 scan, .int .i64 old, .int .i64 copied, .int .i64 serial, .slice ar rs.length cr], .int .i64 r] w fun e w' => e = .returned (.int .i64 0) ∧ Below w.heap.size w w' := by
  have HS : Hid (Sl w (.slice aw ws.length cw) ws) := hs
  have HR : Hid (SlF w.heap.size w (.slice ar rs.length cr) rs.length (2 * rs.length) (fun i => .int .i64 (y i))) := hrt.here
  have HQ : Hid (¬ ArOk ws semi toh top cyc scan old copied serial y rs.length) := hok
  clear hs hrt hok
  go_enter Tryz.func44, Tryz.ntmps44
  go_wp2_with fail
  refine (specArenaOk_at _ _ _ _ _ _ _ _ _ _ _ _ _ _ y w.heap.size _ (HS.out.below (below_first (Below.refl _ _))) hn hw (HR.out.below (below_first (Below.refl _ _)) (Nat.le_refl _)) hn2).mono ?_
  rintro e w1 ⟨q, rfl, hq, b1⟩
  obtain rfl : q = false := by
    cases q with
    | false => rfl
    | true => exact absurd (hq.1 rfl) HQ.out
  have k1 := one_cells b1 (by simp)
  have B1 := below_first b1
  have z1 := size_first b1
  clear b1 hq
  go_wp2
  go_ret
  exact ⟨rfl, B1⟩
set_option maxHeartbeats 2000000 in
theorem specSerialOf_w1 (aw : Option Addr) (cw : Nat) (ws : List Int) (semi toh top : Int) (cyc : Bool) (scan old copied serial : Int) (ar : Option Addr) (cr : Nat) (rs : List (Int × Int)) (r : Int) (y : Nat → Int) (Tr : Nat) (w : World) (hs : Sl w (.slice aw ws.length cw) ws) (hn : ws.length ≤ 1048576) (hw : Words64 ws) (hrt : SlF Tr w (.slice ar rs.length cr) rs.length (2 * rs.length) (fun i => .int .i64 (y i))) (hn2 : rs.length ≤ 1048576) (hok : ArOk ws semi toh top cyc scan old copied serial y rs.length) (hr : hasR r rs.length = false) :
    Calls Tryz.prog 44 #[.agg #[.slice aw ws.length cw, .int .i64 semi, .int .i64 toh, .int .i64 top, .bool cyc, .int .i64 scan, .int .i64 old, .int .i64 copied, .int .i64 serial, .slice ar rs.length cr], .int .i64 r] w fun e w' => e = .returned (.int .i64 0) ∧ Below w.heap.size w w' := by
  have HS : Hid (Sl w (.slice aw ws.length cw) ws) := hs
  have HR : Hid (SlF w.heap.size w (.slice ar rs.length cr) rs.length (2 * rs.length) (fun i => .int .i64 (y i))) := hrt.here
  have HQ : Hid (ArOk ws semi toh top cyc scan old copied serial y rs.length) := hok
  clear hs hrt hok
  go_enter Tryz.func44, Tryz.ntmps44
  go_wp2_with fail
  refine (specArenaOk_at _ _ _ _ _ _ _ _ _ _ _ _ _ _ y w.heap.size _ (HS.out.below (below_first (Below.refl _ _))) hn hw (HR.out.below (below_first (Below.refl _ _)) (Nat.le_refl _)) hn2).mono ?_
  rintro e w1 ⟨q, rfl, hq, b1⟩
  obtain rfl := hq.2 HQ.out
  have k1 := one_cells b1 (by simp)
  have B1 := below_first b1
  have z1 := size_first b1
  clear b1 hq
  go_wp2_with fail
  refine (l2Root_any _ _ _ _ _ _ _ _ _ _ _ _ _ _ _ _ hn2).mono ?_
  rintro e w2 ⟨rfl, b2⟩
  rw [hr]
  have k2 := has_below k1 b2 z1
  have B2 := below_next B1 b2
  have z2 := Nat.lt_of_lt_of_le z1 b2.size
  clear b2 k1 B1 z1
  go_wp2
  go_ret
  exact ⟨rfl, B2⟩
set_option maxHeartbeats 2000000 in
theorem specSerialOf_w2 (aw : Option Addr) (cw : Nat) (ws : List Int) (semi toh top : Int) (cyc : Bool) (scan old copied serial : Int) (ar : Option Addr) (cr : Nat) (rs : List (Int × Int)) (r : Nat) (y : Nat → Int) (Tr : Nat) (w : World) (hs : Sl w (.slice aw ws.length cw) ws) (hn : ws.length ≤ 1048576) (hw : Words64 ws) (hrt : SlF Tr w (.slice ar rs.length cr) rs.length (2 * rs.length) (fun i => .int .i64 (y i))) (hn2 : rs.length ≤ 1048576) (hok : ArOk ws semi toh top cyc scan old copied serial y rs.length) (hr : r < rs.length) (ht : isR (y (2 * r)) = false) :
    Calls Tryz.prog 44 #[.agg #[.slice aw ws.length cw, .int .i64 semi, .int .i64 toh, .int .i64 top, .bool cyc, .int .i64 scan, .int .i64 old, .int .i64 copied, .int .i64 serial, .slice ar rs.length cr], .int .i64 r] w fun e w' => e = .returned (.int .i64 0) ∧ Below w.heap.size w w' := by
  have HS : Hid (Sl w (.slice aw ws.length cw) ws) := hs
  have HR : Hid (SlF w.heap.size w (.slice ar rs.length cr) rs.length (2 * rs.length) (fun i => .int .i64 (y i))) := hrt.here
  have HQ : Hid (ArOk ws semi toh top cyc scan old copied serial y rs.length) := hok
  clear hs hrt hok
  obtain ⟨t, hty⟩ : ∃ t : Int, t = y (2 * r) := ⟨_, rfl⟩
  obtain ⟨m, hmy⟩ : ∃ m : Int, m = y (2 * r + 1) := ⟨_, rfl⟩
  rw [← hty] at ht
  have HTY : Hid (t = y (2 * r)) := hty
  have HMY : Hid (m = y (2 * r + 1)) := hmy
  clear hty hmy
  go_enter Tryz.func44, Tryz.ntmps44
  go_wp2_with fail
  refine (specArenaOk_at _ _ _ _ _ _ _ _ _ _ _ _ _ _ y w.heap.size _ (HS.out.below (below_first (Below.refl _ _))) hn hw (HR.out.below (below_first (Below.refl _ _)) (Nat.le_refl _)) hn2).mono ?_
  rintro e w1 ⟨q, rfl, hq, b1⟩
  obtain rfl := hq.2 HQ.out
  have k1 := one_cells b1 (by simp)
  have B1 := below_first b1
  have z1 := size_first b1
  clear b1 hq
  go_wp2_with fail
  refine (l2Root_any _ _ _ _ _ _ _ _ _ _ _ _ _ _ _ _ hn2).mono ?_
  rintro e w2 ⟨rfl, b2⟩
  rw [show hasR (r : Int) rs.length = true from decide_eq_true ⟨by omega, by omega⟩]
  have k2 := has_below k1 b2 z1
  have B2 := below_next B1 b2
  have z2 := Nat.lt_of_lt_of_le z1 b2.size
  clear b2 k1 B1 z1
  obtain ⟨br, offr, cap', hv, _, lbr, hcr⟩ := HR.out.parts (k := 0) (by omega)
  simp only [Value.slice.injEq] at hv
  obtain ⟨rfl, _, rfl⟩ := hv
  have x0 : w2.cell? ⟨br, offr + r * 2, none⟩ = some (.int .i64 t) := by rw [B2.cell (p := ⟨br, offr + r * 2, none⟩) lbr, Nat.mul_comm, HTY.out]; exact hcr (2 * r) (by omega)
  have x1 : w2.cell? ⟨br, offr + r * 2 + 1, none⟩ = some (.int .i64 m) := by rw [B2.cell (p := ⟨br, offr + r * 2 + 1, none⟩) lbr, Nat.mul_comm, HMY.out]; exact hcr (2 * r + 1) (by omega)
  have hr' : (r : Int) < (rs.length : Int) := by omega
  clear hcr
  go_wp2_with fail
  refine (specIsRef_any _ _ _).mono ?_
  rintro e w3 ⟨rfl, b3⟩
  rw [ht]
  have k3 := has_below k2 b3 z2
  have B3 := below_next B2 b3
  have z3 := Nat.lt_of_lt_of_le z2 b3.size
  have lb2 : br < w2.heap.size := Nat.lt_of_lt_of_le lbr B2.size
  have u0 : w3.cell? ⟨br, offr + r * 2, none⟩ = some (.int .i64 t) := by rw [b3.cell (p := ⟨br, offr + r * 2, none⟩) lb2]; exact x0
  have u1 : w3.cell? ⟨br, offr + r * 2 + 1, none⟩ = some (.int .i64 m) := by rw [b3.cell (p := ⟨br, offr + r * 2 + 1, none⟩) lb2]; exact x1
  clear b3 k2 x0 x1 B2 z2 ht
  go_wp2
  go_ret
  exact ⟨rfl, B3⟩
set_option maxHeartbeats 2000000 in
theorem specSerialOf_w3 (aw : Option Addr) (cw : Nat) (ws : List Int) (semi toh top : Int) (cyc : Bool) (scan old copied serial : Int) (ar : Option Addr) (cr : Nat) (rs : List (Int × Int)) (r p : Nat) (y : Nat → Int) (Tr : Nat) (w : World) (hs : Sl w (.slice aw ws.length cw) ws) (hn : ws.length ≤ 1048576) (hw : Words64 ws) (hrt : SlF Tr w (.slice ar rs.length cr) rs.length (2 * rs.length) (fun i => .int .i64 (y i))) (hn2 : rs.length ≤ 1048576) (hok : ArOk ws semi toh top cyc scan old copied serial y rs.length) (hr : r < rs.length) (ht : isR (y (2 * r)) = true) (hp : y (2 * r + 1) = (p : Int)) (hpn : p + 1 < ws.length) :
    Calls Tryz.prog 44 #[.agg #[.slice aw ws.length cw, .int .i64 semi, .int .i64 toh, .int .i64 top, .bool cyc, .int .i64 scan, .int .i64 old, .int .i64 copied, .int .i64 serial, .slice ar rs.length cr], .int .i64 r] w fun e w' => e = .returned (.int .i64 (rdN (wordAt ws p))) ∧ Below w.heap.size w w' := by
  have HS : Hid (Sl w (.slice aw ws.length cw) ws) := hs
  have HR : Hid (SlF w.heap.size w (.slice ar rs.length cr) rs.length (2 * rs.length) (fun i => .int .i64 (y i))) := hrt.here
  have HQ : Hid (ArOk ws semi toh top cyc scan old copied serial y rs.length) := hok
  clear hs hrt hok
  obtain ⟨t, hty⟩ : ∃ t : Int, t = y (2 * r) := ⟨_, rfl⟩
  obtain ⟨m, hmy⟩ : ∃ m : Int, m = y (2 * r + 1) := ⟨_, rfl⟩
  rw [← hty] at ht
  have HTY : Hid (t = y (2 * r)) := hty
  have HMY : Hid (m = y (2 * r + 1)) := hmy
  rw [← hmy] at hp
  clear hty hmy
  go_enter Tryz.func44, Tryz.ntmps44
  go_wp2_with fail
  refine (specArenaOk_at _ _ _ _ _ _ _ _ _ _ _ _ _ _ y w.heap.size _ (HS.out.below (below_first (Below.refl _ _))) hn hw (HR.out.below (below_first (Below.refl _ _)) (Nat.le_refl _)) hn2).mono ?_
  rintro e w1 ⟨q, rfl, hq, b1⟩
  obtain rfl := hq.2 HQ.out
  have k1 := one_cells b1 (by simp)
  have B1 := below_first b1
  have z1 := size_first b1
  clear b1 hq
  go_wp2_with fail
  refine (l2Root_any _ _ _ _ _ _ _ _ _ _ _ _ _ _ _ _ hn2).mono ?_
  rintro e w2 ⟨rfl, b2⟩
  rw [show hasR (r : Int) rs.length = true from decide_eq_true ⟨by omega, by omega⟩]
  have k2 := has_below k1 b2 z1
  have B2 := below_next B1 b2
  have z2 := Nat.lt_of_lt_of_le z1 b2.size
  clear b2 k1 B1 z1
  obtain ⟨br, offr, cap', hv, _, lbr, hcr⟩ := HR.out.parts (k := 0) (by omega)
  simp only [Value.slice.injEq] at hv
  obtain ⟨rfl, _, rfl⟩ := hv
  have x0 : w2.cell? ⟨br, offr + r * 2, none⟩ = some (.int .i64 t) := by rw [B2.cell (p := ⟨br, offr + r * 2, none⟩) lbr, Nat.mul_comm, HTY.out]; exact hcr (2 * r) (by omega)
  have x1 : w2.cell? ⟨br, offr + r * 2 + 1, none⟩ = some (.int .i64 m) := by rw [B2.cell (p := ⟨br, offr + r * 2 + 1, none⟩) lbr, Nat.mul_comm, HMY.out]; exact hcr (2 * r + 1) (by omega)
  have hr' : (r : Int) < (rs.length : Int) := by omega
  clear hcr
  go_wp2_with fail
  refine (specIsRef_any _ _ _).mono ?_
  rintro e w3 ⟨rfl, b3⟩
  rw [ht]
  have k3 := has_below k2 b3 z2
  have B3 := below_next B2 b3
  have z3 := Nat.lt_of_lt_of_le z2 b3.size
  have lb2 : br < w2.heap.size := Nat.lt_of_lt_of_le lbr B2.size
  have u0 : w3.cell? ⟨br, offr + r * 2, none⟩ = some (.int .i64 t) := by rw [b3.cell (p := ⟨br, offr + r * 2, none⟩) lb2]; exact x0
  have u1 : w3.cell? ⟨br, offr + r * 2 + 1, none⟩ = some (.int .i64 m) := by rw [b3.cell (p := ⟨br, offr + r * 2 + 1, none⟩) lb2]; exact x1
  clear b3 k2 x0 x1 B2 z2 ht
  subst hp
  have fz := field_serial
  have lbw : br < w3.heap.size := Nat.lt_of_lt_of_le lbr B3.size
  have KP : ∀ V, Below w3.heap.size w3 V → (Below w3.heap.size w3 V ∧ (∀ i, V.cell? ⟨w.heap.size, i, none⟩ = (#[.slice aw ws.length cw, .int .i64 semi, .int .i64 toh, .int .i64 top, .bool cyc, .int .i64 scan, .int .i64 old, .int .i64 copied, .int .i64 serial, .slice (some ⟨br, offr, none⟩) rs.length cr] : Array Value)[i]?) ∧ V.cell? ⟨br, offr + r * 2, none⟩ = some (.int .i64 t) ∧ V.cell? ⟨br, offr + r * 2 + 1, none⟩ = some (.int .i64 (p : Int))) := fun V hV => ⟨hV, has_below k3 hV z3, by rw [hV.cell (p := ⟨br, offr + r * 2, none⟩) lbw]; exact u0, by rw [hV.cell (p := ⟨br, offr + r * 2 + 1, none⟩) lbw]; exact u1⟩
  have bd' := (Below.refl w3.heap.size w3).drew
  go_wp2_with fail
  go_region_held3 (fun V => Below w3.heap.size w3 V ∧ (∀ i, V.cell? ⟨w.heap.size, i, none⟩ = (#[.slice aw ws.length cw, .int .i64 semi, .int .i64 toh, .int .i64 top, .bool cyc, .int .i64 scan, .int .i64 old, .int .i64 copied, .int .i64 serial, .slice (some ⟨br, offr, none⟩) rs.length cr] : Array Value)[i]?) ∧ V.cell? ⟨br, offr + r * 2, none⟩ = some (.int .i64 t) ∧ V.cell? ⟨br, offr + r * 2 + 1, none⟩ = some (.int .i64 (p : Int))) (first | assumption | exact KP _ bd' | exact KP _ (by assumption)) (first | (go_at_call 70; refine (l2Look_any _ _ _ _ _ _ _ _ _ _ _ _ _ _ p _ (HS.out.below (below_next B3 (And.left (by assumption)))) hn hw (by omega)).mono ?_; rintro e wl ⟨rfl, bb⟩; have hBl := below_next (w := w3) (And.left (by assumption)) bb; clear bb))
  all_goals
    go_wp2
    go_ret
    exact ⟨rfl, below_next B3 hBl⟩
set_option maxHeartbeats 2000000 in
theorem implSerialOf_w0 (aw : Option Addr) (cw : Nat) (ws : List Int) (semi toh top : Int) (cyc : Bool) (scan old copied serial : Int) (ar : Option Addr) (cr : Nat) (rs : List (Int × Int)) (r : Int) (y : Nat → Int) (Tr : Nat) (w : World) (hs : Sl w (.slice aw ws.length cw) ws) (hcw : ws.length ≤ cw) (hn : ws.length ≤ 1048576) (hw : Words64 ws) (hrt : SlF Tr w (.slice ar rs.length cr) rs.length (2 * rs.length) (fun i => .int .i64 (y i))) (hn2 : rs.length ≤ 1048576) (hok : ¬ ArOk ws semi toh top cyc scan old copied serial y rs.length) :
    Calls Tryz.prog 45 #[.agg #[.slice aw ws.length cw, .int .i64 semi, .int .i64 toh, .int .i64 top, .bool cyc, .int .i64 scan, .int .i64 old, .int .i64 copied, .int .i64 serial, .slice ar rs.length cr], .int .i64 r] w fun e w' => e = .returned (.int .i64 0) ∧ Below w.heap.size w w' := by
  have HS : Hid (Sl w (.slice aw ws.length cw) ws) := hs
  have HR : Hid (SlF w.heap.size w (.slice ar rs.length cr) rs.length (2 * rs.length) (fun i => .int .i64 (y i))) := hrt.here
  have HQ : Hid (¬ ArOk ws semi toh top cyc scan old copied serial y rs.length) := hok
  clear hs hrt hok
  go_enter Tryz.func45, Tryz.ntmps45
  go_wp2_with fail
  refine (implArenaOk_at _ _ _ _ _ _ _ _ _ _ _ _ _ _ y w.heap.size _ (HS.out.below (below_first (Below.refl _ _))) hcw hn hw (HR.out.below (below_first (Below.refl _ _)) (Nat.le_refl _)) hn2).mono ?_
  rintro e w1 ⟨q, rfl, hq, b1⟩
  obtain rfl : q = false := by
    cases q with
    | false => rfl
    | true => exact absurd (hq.1 rfl) HQ.out
  have k1 := one_cells b1 (by simp)
  have B1 := below_first b1
  have z1 := size_first b1
  clear b1 hq
  go_wp2
  go_ret
  exact ⟨rfl, B1⟩
set_option maxHeartbeats 2000000 in
theorem implSerialOf_w1 (aw : Option Addr) (cw : Nat) (ws : List Int) (semi toh top : Int) (cyc : Bool) (scan old copied serial : Int) (ar : Option Addr) (cr : Nat) (rs : List (Int × Int)) (r : Int) (y : Nat → Int) (Tr : Nat) (w : World) (hs : Sl w (.slice aw ws.length cw) ws) (hcw : ws.length ≤ cw) (hn : ws.length ≤ 1048576) (hw : Words64 ws) (hrt : SlF Tr w (.slice ar rs.length cr) rs.length (2 * rs.length) (fun i => .int .i64 (y i))) (hn2 : rs.length ≤ 1048576) (hok : ArOk ws semi toh top cyc scan old copied serial y rs.length) (hr : hasR r rs.length = false) :
    Calls Tryz.prog 45 #[.agg #[.slice aw ws.length cw, .int .i64 semi, .int .i64 toh, .int .i64 top, .bool cyc, .int .i64 scan, .int .i64 old, .int .i64 copied, .int .i64 serial, .slice ar rs.length cr], .int .i64 r] w fun e w' => e = .returned (.int .i64 0) ∧ Below w.heap.size w w' := by
  have HS : Hid (Sl w (.slice aw ws.length cw) ws) := hs
  have HR : Hid (SlF w.heap.size w (.slice ar rs.length cr) rs.length (2 * rs.length) (fun i => .int .i64 (y i))) := hrt.here
  have HQ : Hid (ArOk ws semi toh top cyc scan old copied serial y rs.length) := hok
  clear hs hrt hok
  go_enter Tryz.func45, Tryz.ntmps45
  go_wp2_with fail
  refine (implArenaOk_at _ _ _ _ _ _ _ _ _ _ _ _ _ _ y w.heap.size _ (HS.out.below (below_first (Below.refl _ _))) hcw hn hw (HR.out.below (below_first (Below.refl _ _)) (Nat.le_refl _)) hn2).mono ?_
  rintro e w1 ⟨q, rfl, hq, b1⟩
  obtain rfl := hq.2 HQ.out
  have k1 := one_cells b1 (by simp)
  have B1 := below_first b1
  have z1 := size_first b1
  clear b1 hq
  go_wp2_with fail
  refine (hasRoot_any _ _ _ _ _ _ _ _ _ _ _ _ _ _ _ _ hn2).mono ?_
  rintro e w2 ⟨rfl, b2⟩
  rw [hr]
  have k2 := has_below k1 b2 z1
  have B2 := below_next B1 b2
  have z2 := Nat.lt_of_lt_of_le z1 b2.size
  clear b2 k1 B1 z1
  go_wp2
  go_ret
  exact ⟨rfl, B2⟩
set_option maxHeartbeats 2000000 in
theorem implSerialOf_w2 (aw : Option Addr) (cw : Nat) (ws : List Int) (semi toh top : Int) (cyc : Bool) (scan old copied serial : Int) (ar : Option Addr) (cr : Nat) (rs : List (Int × Int)) (r : Nat) (y : Nat → Int) (Tr : Nat) (w : World) (hs : Sl w (.slice aw ws.length cw) ws) (hcw : ws.length ≤ cw) (hn : ws.length ≤ 1048576) (hw : Words64 ws) (hrt : SlF Tr w (.slice ar rs.length cr) rs.length (2 * rs.length) (fun i => .int .i64 (y i))) (hn2 : rs.length ≤ 1048576) (hok : ArOk ws semi toh top cyc scan old copied serial y rs.length) (hr : r < rs.length) (ht : isR (y (2 * r)) = false) :
    Calls Tryz.prog 45 #[.agg #[.slice aw ws.length cw, .int .i64 semi, .int .i64 toh, .int .i64 top, .bool cyc, .int .i64 scan, .int .i64 old, .int .i64 copied, .int .i64 serial, .slice ar rs.length cr], .int .i64 r] w fun e w' => e = .returned (.int .i64 0) ∧ Below w.heap.size w w' := by
  have HS : Hid (Sl w (.slice aw ws.length cw) ws) := hs
  have HR : Hid (SlF w.heap.size w (.slice ar rs.length cr) rs.length (2 * rs.length) (fun i => .int .i64 (y i))) := hrt.here
  have HQ : Hid (ArOk ws semi toh top cyc scan old copied serial y rs.length) := hok
  clear hs hrt hok
  obtain ⟨t, hty⟩ : ∃ t : Int, t = y (2 * r) := ⟨_, rfl⟩
  obtain ⟨m, hmy⟩ : ∃ m : Int, m = y (2 * r + 1) := ⟨_, rfl⟩
  rw [← hty] at ht
  have HTY : Hid (t = y (2 * r)) := hty
  have HMY : Hid (m = y (2 * r + 1)) := hmy
  clear hty hmy
  go_enter Tryz.func45, Tryz.ntmps45
  go_wp2_with fail
  refine (implArenaOk_at _ _ _ _ _ _ _ _ _ _ _ _ _ _ y w.heap.size _ (HS.out.below (below_first (Below.refl _ _))) hcw hn hw (HR.out.below (below_first (Below.refl _ _)) (Nat.le_refl _)) hn2).mono ?_
  rintro e w1 ⟨q, rfl, hq, b1⟩
  obtain rfl := hq.2 HQ.out
  have k1 := one_cells b1 (by simp)
  have B1 := below_first b1
  have z1 := size_first b1
  clear b1 hq
  go_wp2_with fail
  refine (hasRoot_any _ _ _ _ _ _ _ _ _ _ _ _ _ _ _ _ hn2).mono ?_
  rintro e w2 ⟨rfl, b2⟩
  rw [show hasR (r : Int) rs.length = true from decide_eq_true ⟨by omega, by omega⟩]
  have k2 := has_below k1 b2 z1
  have B2 := below_next B1 b2
  have z2 := Nat.lt_of_lt_of_le z1 b2.size
  clear b2 k1 B1 z1
  obtain ⟨br, offr, cap', hv, _, lbr, hcr⟩ := HR.out.parts (k := 0) (by omega)
  simp only [Value.slice.injEq] at hv
  obtain ⟨rfl, _, rfl⟩ := hv
  have x0 : w2.cell? ⟨br, offr + r * 2, none⟩ = some (.int .i64 t) := by rw [B2.cell (p := ⟨br, offr + r * 2, none⟩) lbr, Nat.mul_comm, HTY.out]; exact hcr (2 * r) (by omega)
  have x1 : w2.cell? ⟨br, offr + r * 2 + 1, none⟩ = some (.int .i64 m) := by rw [B2.cell (p := ⟨br, offr + r * 2 + 1, none⟩) lbr, Nat.mul_comm, HMY.out]; exact hcr (2 * r + 1) (by omega)
  have hr' : (r : Int) < (rs.length : Int) := by omega
  clear hcr
  go_wp2_with fail
  refine (implIsRef_any _ _ _).mono ?_
  rintro e w3 ⟨rfl, b3⟩
  rw [ht]
  have k3 := has_below k2 b3 z2
  have B3 := below_next B2 b3
  have z3 := Nat.lt_of_lt_of_le z2 b3.size
  have lb2 : br < w2.heap.size := Nat.lt_of_lt_of_le lbr B2.size
  have u0 : w3.cell? ⟨br, offr + r * 2, none⟩ = some (.int .i64 t) := by rw [b3.cell (p := ⟨br, offr + r * 2, none⟩) lb2]; exact x0
  have u1 : w3.cell? ⟨br, offr + r * 2 + 1, none⟩ = some (.int .i64 m) := by rw [b3.cell (p := ⟨br, offr + r * 2 + 1, none⟩) lb2]; exact x1
  clear b3 k2 x0 x1 B2 z2 ht
  go_wp2
  go_ret
  exact ⟨rfl, B3⟩
set_option maxHeartbeats 2000000 in
theorem implSerialOf_w3 (aw : Option Addr) (cw : Nat) (ws : List Int) (semi toh top : Int) (cyc : Bool) (scan old copied serial : Int) (ar : Option Addr) (cr : Nat) (rs : List (Int × Int)) (r p : Nat) (y : Nat → Int) (Tr : Nat) (w : World) (hs : Sl w (.slice aw ws.length cw) ws) (hcw : ws.length ≤ cw) (hn : ws.length ≤ 1048576) (hw : Words64 ws) (hrt : SlF Tr w (.slice ar rs.length cr) rs.length (2 * rs.length) (fun i => .int .i64 (y i))) (hn2 : rs.length ≤ 1048576) (hok : ArOk ws semi toh top cyc scan old copied serial y rs.length) (hr : r < rs.length) (ht : isR (y (2 * r)) = true) (hp : y (2 * r + 1) = (p : Int)) (hpn : p + 1 < ws.length) :
    Calls Tryz.prog 45 #[.agg #[.slice aw ws.length cw, .int .i64 semi, .int .i64 toh, .int .i64 top, .bool cyc, .int .i64 scan, .int .i64 old, .int .i64 copied, .int .i64 serial, .slice ar rs.length cr], .int .i64 r] w fun e w' => e = .returned (.int .i64 (rdN (wordAt ws p))) ∧ Below w.heap.size w w' := by
  have HS : Hid (Sl w (.slice aw ws.length cw) ws) := hs
  have HR : Hid (SlF w.heap.size w (.slice ar rs.length cr) rs.length (2 * rs.length) (fun i => .int .i64 (y i))) := hrt.here
  have HQ : Hid (ArOk ws semi toh top cyc scan old copied serial y rs.length) := hok
  clear hs hrt hok
  obtain ⟨t, hty⟩ : ∃ t : Int, t = y (2 * r) := ⟨_, rfl⟩
  obtain ⟨m, hmy⟩ : ∃ m : Int, m = y (2 * r + 1) := ⟨_, rfl⟩
  rw [← hty] at ht
  have HTY : Hid (t = y (2 * r)) := hty
  have HMY : Hid (m = y (2 * r + 1)) := hmy
  rw [← hmy] at hp
  clear hty hmy
  go_enter Tryz.func45, Tryz.ntmps45
  go_wp2_with fail
  refine (implArenaOk_at _ _ _ _ _ _ _ _ _ _ _ _ _ _ y w.heap.size _ (HS.out.below (below_first (Below.refl _ _))) hcw hn hw (HR.out.below (below_first (Below.refl _ _)) (Nat.le_refl _)) hn2).mono ?_
  rintro e w1 ⟨q, rfl, hq, b1⟩
  obtain rfl := hq.2 HQ.out
  have k1 := one_cells b1 (by simp)
  have B1 := below_first b1
  have z1 := size_first b1
  clear b1 hq
  go_wp2_with fail
  refine (hasRoot_any _ _ _ _ _ _ _ _ _ _ _ _ _ _ _ _ hn2).mono ?_
  rintro e w2 ⟨rfl, b2⟩
  rw [show hasR (r : Int) rs.length = true from decide_eq_true ⟨by omega, by omega⟩]
  have k2 := has_below k1 b2 z1
  have B2 := below_next B1 b2
  have z2 := Nat.lt_of_lt_of_le z1 b2.size
  clear b2 k1 B1 z1
  obtain ⟨br, offr, cap', hv, _, lbr, hcr⟩ := HR.out.parts (k := 0) (by omega)
  simp only [Value.slice.injEq] at hv
  obtain ⟨rfl, _, rfl⟩ := hv
  have x0 : w2.cell? ⟨br, offr + r * 2, none⟩ = some (.int .i64 t) := by rw [B2.cell (p := ⟨br, offr + r * 2, none⟩) lbr, Nat.mul_comm, HTY.out]; exact hcr (2 * r) (by omega)
  have x1 : w2.cell? ⟨br, offr + r * 2 + 1, none⟩ = some (.int .i64 m) := by rw [B2.cell (p := ⟨br, offr + r * 2 + 1, none⟩) lbr, Nat.mul_comm, HMY.out]; exact hcr (2 * r + 1) (by omega)
  have hr' : (r : Int) < (rs.length : Int) := by omega
  clear hcr
  go_wp2_with fail
  refine (implIsRef_any _ _ _).mono ?_
  rintro e w3 ⟨rfl, b3⟩
  rw [ht]
  have k3 := has_below k2 b3 z2
  have B3 := below_next B2 b3
  have z3 := Nat.lt_of_lt_of_le z2 b3.size
  have lb2 : br < w2.heap.size := Nat.lt_of_lt_of_le lbr B2.size
  have u0 : w3.cell? ⟨br, offr + r * 2, none⟩ = some (.int .i64 t) := by rw [b3.cell (p := ⟨br, offr + r * 2, none⟩) lb2]; exact x0
  have u1 : w3.cell? ⟨br, offr + r * 2 + 1, none⟩ = some (.int .i64 m) := by rw [b3.cell (p := ⟨br, offr + r * 2 + 1, none⟩) lb2]; exact x1
  clear b3 k2 x0 x1 B2 z2 ht
  subst hp
  have fz := field_serial
  have lbw : br < w3.heap.size := Nat.lt_of_lt_of_le lbr B3.size
  have KP : ∀ V, Below w3.heap.size w3 V → (Below w3.heap.size w3 V ∧ (∀ i, V.cell? ⟨w.heap.size, i, none⟩ = (#[.slice aw ws.length cw, .int .i64 semi, .int .i64 toh, .int .i64 top, .bool cyc, .int .i64 scan, .int .i64 old, .int .i64 copied, .int .i64 serial, .slice (some ⟨br, offr, none⟩) rs.length cr] : Array Value)[i]?) ∧ V.cell? ⟨br, offr + r * 2, none⟩ = some (.int .i64 t) ∧ V.cell? ⟨br, offr + r * 2 + 1, none⟩ = some (.int .i64 (p : Int))) := fun V hV => ⟨hV, has_below k3 hV z3, by rw [hV.cell (p := ⟨br, offr + r * 2, none⟩) lbw]; exact u0, by rw [hV.cell (p := ⟨br, offr + r * 2 + 1, none⟩) lbw]; exact u1⟩
  have bd' := (Below.refl w3.heap.size w3).drew
  go_wp2_with fail
  go_region_held3 (fun V => Below w3.heap.size w3 V ∧ (∀ i, V.cell? ⟨w.heap.size, i, none⟩ = (#[.slice aw ws.length cw, .int .i64 semi, .int .i64 toh, .int .i64 top, .bool cyc, .int .i64 scan, .int .i64 old, .int .i64 copied, .int .i64 serial, .slice (some ⟨br, offr, none⟩) rs.length cr] : Array Value)[i]?) ∧ V.cell? ⟨br, offr + r * 2, none⟩ = some (.int .i64 t) ∧ V.cell? ⟨br, offr + r * 2 + 1, none⟩ = some (.int .i64 (p : Int))) (first | assumption | exact KP _ bd' | exact KP _ (by assumption)) (first | (go_at_call 84; refine (headAt_at _ _ _ _ _ _ _ _ _ _ _ _ _ _ (p : Int) p _ rfl (HS.out.below (below_next B3 (And.left (by assumption)))) hn hw (by omega)).mono ?_; rintro e wl ⟨rfl, bb⟩; have hBl := below_next (w := w3) (And.left (by assumption)) bb; clear bb))
  all_goals
    go_wp2
    go_ret
    exact ⟨rfl, below_next B3 hBl⟩
end Go.Proofs.YtaapiedminakcaaGreat
