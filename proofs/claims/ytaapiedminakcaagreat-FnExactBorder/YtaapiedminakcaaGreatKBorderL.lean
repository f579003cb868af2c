/- The border of a table. No Go here. -/
import Derived.Test.YtaapiedminakcaaGreatProg
import Derived.Test.YtaapiedminakcaaGreatKCapacityL
import Derived.Test.YtaapiedminakcaaGreatKBrD
import Derived.Deep.RegionHeld3
import Derived.WalkMore
import Derived.Test.YtaapiedminakcaaGreatKAllA
import Derived.Test.YtaapiedminakcaaGreatKLawC
namespace Go.Proofs.YtaapiedminakcaaGreat
set_option maxRecDepth 20000
open Go.RowKit
set_option linter.unusedSimpArgs false
set_option linter.unusedVariables false

theorem findF_cases {ws : List Int} {Q n : Nat} {t m : Int} (hn : 0 < n) : ∀ f i, i < n → findF ws Q n t m f i = (-1, false) ∨ (∃ r : Nat, r < n ∧ findF ws Q n t m f i = ((r : Int), false) ∧ kT ws Q r = 0) ∨ (∃ r : Nat, r < n ∧ findF ws Q n t m f i = ((r : Int), true) ∧ sameV ws (kT ws Q r) (kN ws Q r) t m = true)
  | 0, i, _ => .inl rfl
  | f + 1, i, hi => by
    simp only [findF]
    by_cases e : kT ws Q i = 0
    · rw [if_pos e]; exact .inr (.inl ⟨i, hi, rfl, e⟩)
    · rw [if_neg e]
      by_cases e2 : sameV ws (kT ws Q i) (kN ws Q i) t m = true
      · rw [if_pos e2]; exact .inr (.inr ⟨i, hi, rfl, e2⟩)
      · rw [if_neg e2]; exact findF_cases hn f _ (Nat.mod_lt _ hn)
/-- What the search for the number m finds in the table at p. -/
def fnd (ws : List Int) (p : Nat) (m : Int) : Int × Bool := if capB ws p = 0 then (-1, false) else findV ws (blkN ws p) (capB ws p) 2 m
/-- Has the number k + 1 a value there? -/
def hasV (ws : List Int) (p k : Nat) : Bool := (fnd ws p ((k : Int) + 1)).2 && decide (rvT ws (blkN ws p + 1 + 4 * (fnd ws p ((k : Int) + 1)).1.toNat + 2) ≠ 0)
def brdF (ws : List Int) (p : Nat) : Nat → Nat → Nat
  | 0, k => k
  | f + 1, k => if hasV ws p k = true then brdF ws p f (k + 1) else k
def brd (ws : List Int) (p : Nat) : Nat := brdF ws p 65 0
theorem same_two {ws : List Int} {t m m2 : Int} (h : sameV ws t m 2 m2 = true) : t = 2 ∧ m = m2 := by
  unfold sameV at h
  by_cases e : t = 2
  · subst e
    simp [isR] at h
    exact ⟨rfl, h⟩
  · simp [e] at h
theorem tab_cap {ws : List Int} {p : Nat} (hT : TabIs ws p) : capB ws p ≤ 64 ∧ (capB ws p ≠ 0 → 0 < blkN ws p ∧ KeysIn ws (blkN ws p) (capB ws p) ∧ capB ws p = capN ws (blkN ws p) ∧ blkN ws p < ws.length ∧ (∀ i, i < capB ws p → vOk (kT ws (blkN ws p) i) (kN ws (blkN ws p) i) = true)) := by
  obtain ⟨⟨hp, hin⟩, h08, h8⟩ := hT
  unfold capB blkN
  rcases h08 with h | h
  · rw [if_pos h]; exact ⟨by omega, fun g => absurd rfl g⟩
  · obtain ⟨a1, a2, a3, a4, a5, a6, a7, a8⟩ := hin h
    have h0 : ¬ rvT ws (p + 2) = 0 := by omega
    rw [if_neg h0, if_neg h0]
    exact ⟨a6, fun _ => ⟨(h8 h).1, a7, rfl, a4, a8⟩⟩
theorem fnd_cases {ws : List Int} {p : Nat} (m : Int) : fnd ws p m = (-1, false) ∨ (∃ r : Nat, r < capB ws p ∧ fnd ws p m = ((r : Int), false) ∧ kT ws (blkN ws p) r = 0) ∨ (∃ r : Nat, r < capB ws p ∧ fnd ws p m = ((r : Int), true) ∧ sameV ws (kT ws (blkN ws p) r) (kN ws (blkN ws p) r) 2 m = true) := by
  unfold fnd
  by_cases e : capB ws p = 0
  · rw [if_pos e]; exact .inl rfl
  · rw [if_neg e]; exact findF_cases (by omega) _ _ (Nat.mod_lt _ (by omega))
theorem hasV_key {ws : List Int} {p k : Nat} (h : hasV ws p k = true) : ∃ i, i < capB ws p ∧ kN ws (blkN ws p) i = (k : Int) + 1 := by
  unfold hasV at h
  rw [Bool.and_eq_true] at h
  rcases fnd_cases (ws := ws) (p := p) ((k : Int) + 1) with g | ⟨r, _, g, _⟩ | ⟨r, hr, g, hs⟩
  · rw [g] at h; simp at h
  · rw [g] at h; simp at h
  · exact ⟨r, hr, (same_two hs).2⟩
theorem holes {f : Nat → Int} : ∀ (c : Nat) (xs : List Int), xs.Nodup → (∀ x ∈ xs, ∃ i, i < c ∧ f i = x) → xs.length ≤ c
  | 0, xs, _, h => by
    cases xs with
    | nil => exact Nat.le_refl _
    | cons x xs => obtain ⟨i, hi, _⟩ := h x (List.mem_cons_self ..); omega
  | c + 1, xs, hd, h => by
    have := holes (f := f) c (xs.erase (f c)) (hd.erase _) (fun x hx => by
      obtain ⟨hne, hx'⟩ := hd.mem_erase_iff.1 hx
      obtain ⟨i, hi, e⟩ := h x hx'
      refine ⟨i, ?_, e⟩
      have : i ≠ c := fun g => hne (by rw [← e, g])
      omega)
    rw [List.length_erase] at this
    split at this <;> omega
theorem hasV_le {ws : List Int} {p k : Nat} (h : ∀ j, j < k → hasV ws p j = true) : k ≤ capB ws p := by
  have := holes (f := kN ws (blkN ws p)) (capB ws p) ((List.range k).map (fun j => ((j : Nat) : Int) + 1)) (List.Pairwise.map _ (fun a b h e => h (by have := e; omega)) List.nodup_range) (fun x hx => by
      obtain ⟨j, hj, rfl⟩ := List.mem_map.1 hx
      exact hasV_key (h j (List.mem_range.1 hj)))
  simpa using this
theorem keyB_two {ws : List Int} {Q j : Nat} (m : Int) : keyB (kT ws Q j) (pN ws Q j) (pS ws Q j) 2 m ⟨#[]⟩ = sameV ws (kT ws Q j) (kN ws Q j) 2 m := by
  unfold keyB pN pS sameV
  by_cases e : kT ws Q j = 2
  · rw [e]; simp [kyN, kyS, isR]
  · simp [e]
theorem keyB_nil {ws : List Int} {Q j : Nat} (hv : vOk (kT ws Q j) (kN ws Q j) = true) : keyB (kT ws Q j) (pN ws Q j) (pS ws Q j) 0 0 ⟨#[]⟩ = decide (kT ws Q j = 0) := by
  unfold keyB pN pS
  by_cases e : kT ws Q j = 0
  · have : kN ws Q j = 0 := by simp only [vOk, decide_eq_true_eq] at hv; omega
    rw [e, this]; simp [kyN, kyS]
  · simp [e]
end Go.Proofs.YtaapiedminakcaaGreat

/- The model's l6Border. -/
namespace Go.Proofs.YtaapiedminakcaaGreat
set_option maxRecDepth 20000
open Go.RowKit
set_option linter.unusedSimpArgs false
set_option linter.unusedVariables false

theorem field_tag (x y : Int) (w : World) : (Instr.field 50 (.agg #[.int .i64 x, .int .i64 y]) 0).run Tryz.prog w = .ok (.int .i64 x) w := by kernel_rfl
theorem l6Value_at (aw : Option Addr) (cw : Nat) (ws : List Int) (semi toh top : Int) (cyc : Bool) (scan old copied serial : Int) (ar : Option Addr) (cr : Nat) (rs : List (Int × Int)) (x y : Int) (p i : Nat) (w : World) (hx : x = p) (hy : y = i) (hs : Sl w (.slice aw ws.length cw) ws) (hn : ws.length ≤ 1048576) (hw : Words64 ws) (h : p + 3 + 4 * i + 1 < ws.length) :
    Calls Tryz.prog 159 #[.agg #[.slice aw ws.length cw, .int .i64 semi, .int .i64 toh, .int .i64 top, .bool cyc, .int .i64 scan, .int .i64 old, .int .i64 copied, .int .i64 serial, .slice ar rs.length cr], .int .i64 x, .int .i64 y] w fun e w' => e = .returned (.agg #[.int .i64 (rvT ws (p + 3 + 4 * i)), .int .i64 (rvN ws (p + 3 + 4 * i))]) ∧ Below w.heap.size w w' := by
  have x0 : 0 ≤ x := by omega
  have y0 : 0 ≤ y := by omega
  have x1 : x ≤ 1048576 := by omega
  have y1 : y ≤ 1048576 := by omega
  have hP : x + 3 + 4 * y = ((p + 3 + 4 * i : Nat) : Int) := by omega
  clear hx hy
  have HP : Hid (x + 3 + 4 * y = ((p + 3 + 4 * i : Nat) : Int)) := hP
  clear hP
  go_enter Tryz.func159, Tryz.ntmps159
  go_wp2_with fail
  refine (l1Read_at _ ws _ (p + 3 + 4 * i) _ HP.out (sl_alloc (sl_alloc hs _) _) hn hw h).mono ?_
  rintro e w1 ⟨rfl, b1⟩
  obtain ⟨c1, f1⟩ := bcell b1
  have z1 := size_second b1
  have B1 := below_second b1
  go_wp2
  have p0 : (w1.cell? ⟨w.heap.size + 1, 0, none⟩).isSome = true := by rw [c1 _ _ (by simp)]; simp [go_sem]
  have p1 : (w1.cell? ⟨w.heap.size + 1, 1, none⟩).isSome = true := by rw [c1 _ _ (by simp)]; simp [go_sem]
  have hne : w.heap.size + 1 ≠ w1.heap.size := by omega
  refine bodyPost_ret (v := .agg #[.int .i64 (rvT ws (p + 3 + 4 * i)), .int .i64 (rvN ws (p + 3 + 4 * i))]) (by simp [results, Tryz.results159, go_sem, p0, p1, hne, World.cell?_alloc_lt, z1]) rfl ⟨rfl, ?_⟩
  have hle : w.heap.size ≤ w.heap.size + 1 := Nat.le_succ _
  refine Below.alloc ?_ (by simpa using B1.size) _
  exact (B1.setCell (p := ⟨w.heap.size + 1, 0, none⟩) hle _).setCell (p := ⟨w.heap.size + 1, 1, none⟩) hle _

theorem l6Find_zero (aw : Option Addr) (cw : Nat) (ws : List Int) (semi toh top : Int) (cyc : Bool) (scan old copied serial : Int) (ar : Option Addr) (cr : Nat) (rs : List (Int × Int)) (x t m : Int) (w : World) :
    Calls Tryz.prog 130 #[.agg #[.slice aw ws.length cw, .int .i64 semi, .int .i64 toh, .int .i64 top, .bool cyc, .int .i64 scan, .int .i64 old, .int .i64 copied, .int .i64 serial, .slice ar rs.length cr], .int .i64 x, .int .i64 0, .agg #[.int .i64 t, .int .i64 m]] w fun e w' => e = .returned (.tuple #[.int .i64 (-1), .bool false]) ∧ Below w.heap.size w w' := by
  go_enter Tryz.func130, Tryz.ntmps130
  go_wp2
  go_ret2
  exact ⟨rfl, below_second (Below.refl _ _)⟩
theorem key_two (ws : List Int) (m : Int) : KeyIn ws 2 m := ⟨fun h => by simp [isR] at h, fun h => by omega⟩
theorem vOk_two (m : Int) : vOk 2 m = true := by simp [vOk]
/-- l6Find at a table, of a number. -/
theorem l6Find_two (b off cw : Nat) (ws : List Int) (semi toh top : Int) (cyc : Bool) (scan old copied serial : Int) (ar : Option Addr) (cr : Nat) (rs : List (Int × Int)) (x m : Int) (p n : Nat) (w : World) (hs : Sl w (.slice (some ⟨b, off, none⟩) ws.length cw) ws) (hb : b < w.heap.size) (hc : ∀ i, i < ws.length → w.cell? ⟨b, off + i, none⟩ = some (.int .u64 (wordAt ws i))) (hn : ws.length ≤ 1048576) (hw : Words64 ws) (hx : x = (blkN ws p : Nat)) (hcap : n = capB ws p) (hT : TabIs ws p) :
    Calls Tryz.prog 130 #[(.agg #[.slice (some ⟨b, off, none⟩) ws.length cw, .int .i64 semi, .int .i64 toh, .int .i64 top, .bool cyc, .int .i64 scan, .int .i64 old, .int .i64 copied, .int .i64 serial, .slice ar rs.length cr]), .int .i64 x, .int .i64 (n : Nat), .agg #[.int .i64 2, .int .i64 m]] w fun e w' => e = .returned (.tuple #[.int .i64 (fnd ws p m).1, .bool (fnd ws p m).2]) ∧ Below w.heap.size w w' := by
  subst hcap
  unfold fnd
  obtain ⟨h64, hk⟩ := tab_cap hT
  by_cases e : capB ws p = 0
  · rw [if_pos e, e]; exact l6Find_zero _ _ ws semi toh top cyc scan old copied serial ar cr rs x 2 m w
  · rw [if_neg e]
    obtain ⟨_, a7, _, _, _⟩ := hk e
    exact l6Find_at b off cw ws semi toh top cyc scan old copied serial ar cr rs x 2 m (blkN ws p) (capB ws p) w hs hb hc hn hw hx (by omega) h64 a7 rfl (vOk_two m) (key_two ws m)
set_option maxHeartbeats 1000000 in
theorem l6Border_at (b off cw : Nat) (ws : List Int) (semi toh top : Int) (cyc : Bool) (scan old copied serial : Int) (ar : Option Addr) (cr : Nat) (rs : List (Int × Int)) (x : Int) (p : Nat) (w : World) (hx : x = p) (hb : b < w.heap.size) (hc : ∀ i, i < ws.length → w.cell? ⟨b, off + i, none⟩ = some (.int .u64 (wordAt ws i))) (hn : ws.length ≤ 1048576) (hw : Words64 ws) (hT : TabIs ws p) :
    Calls Tryz.prog 116 #[(.agg #[.slice (some ⟨b, off, none⟩) ws.length cw, .int .i64 semi, .int .i64 toh, .int .i64 top, .bool cyc, .int .i64 scan, .int .i64 old, .int .i64 copied, .int .i64 serial, .slice ar rs.length cr]), .int .i64 x] w fun e w' => e = .returned (.int .i64 (brd ws p : Nat)) ∧ Below w.heap.size w w' := by
  have HX : Hid (x = (p : Int)) := hx
  have HT : Hid (TabIs ws p) := hT
  have h64 := (tab_cap hT).1
  have HK := fun e => ((tab_cap hT).2 e).2.1.1
  have HKK : Hid (capB ws p ≠ 0 → blkN ws p + 4 * capB ws p < ws.length) := HK
  have HC : Hid (∀ i, i < ws.length → w.cell? ⟨b, off + i, none⟩ = some (.int .u64 (wordAt ws i))) := hc
  have hft := field_tag
  obtain ⟨Q, hQ⟩ : ∃ Q, Q = blkN ws p := ⟨_, rfl⟩
  obtain ⟨n, hcn⟩ : ∃ n, n = capB ws p := ⟨_, rfl⟩
  have HQ : Hid (Q = blkN ws p) := hQ
  have HN : Hid (n = capB ws p) := hcn
  have HL6 := fun W (h : Below w.heap.size w W) => l6Block_tab (some ⟨b, off, none⟩) cw ws semi toh top cyc scan old copied serial ar cr rs x p W (ar_sl (arx_cells hb hc h).1 (arx_cells hb hc h).2) hn hw hx hT
  rw [← hQ, ← hcn] at HL6
  have HL : Hid (∀ W, Below w.heap.size w W → _) := HL6
  clear hx hc hT hQ hcn HK HL6
  go_enter Tryz.func116, Tryz.ntmps116
  go_wp2_with (go_at_call 119; refine (HL.out _ (below_first (Below.refl _ _))).mono ?_; rintro e w1 ⟨rfl, b1⟩; have B1 := below_first b1; have k1 := one_cells b1 (by simp); have z1 := size_first b1; clear b1)
  have k1' : Hid (∀ i, w1.cell? ⟨w.heap.size, i, none⟩ = (#[.slice (some ⟨b, off, none⟩) ws.length cw, .int .i64 semi, .int .i64 toh, .int .i64 top, .bool cyc, .int .i64 scan, .int .i64 old, .int .i64 copied, .int .i64 serial, .slice ar rs.length cr] : Array Value)[i]?) := k1
  clear k1 HL
  go_loopw [7] (fun u7 wr => ∃ k : Nat, k ≤ 64 ∧ u7 = .int .i64 k ∧ Hid (brd ws p = brdF ws p (65 - k) k) ∧ Hid (∀ j, j < k → hasV ws p j = true) ∧ Below w1.heap.size w1 wr) (fun u7 _ => 65 - (intOf u7).toNat)
  case atStart => exact ⟨0, by omega, rfl, rfl, fun j hj => absurd hj (Nat.not_lt_zero j), Below.refl _ _⟩
  case round =>
    obtain ⟨k, hk, rfl, HB, HA, hB⟩ := hrel
    have kr : ∀ i, wr.cell? ⟨w.heap.size, i, none⟩ = (#[.slice (some ⟨b, off, none⟩) ws.length cw, .int .i64 semi, .int .i64 toh, .int .i64 top, .bool cyc, .int .i64 scan, .int .i64 old, .int .i64 copied, .int .i64 serial, .slice ar rs.length cr] : Array Value)[i]? := has_below k1'.out hB z1
    have HBr : Hid (Below w.heap.size w wr) := below_next B1 hB
    have hk' : (k : Int) ≤ 64 := by omega
    have h65 : 65 - k = (64 - k) + 1 := by omega
    rw [h65] at HB
    have zr : w.heap.size < wr.heap.size := Nat.lt_of_lt_of_le z1 hB.size
    obtain ⟨F, hF⟩ : ∃ F, F = fnd ws p ((k : Int) + 1) := ⟨_, rfl⟩
    have HFI : Hid (∀ W, Below w.heap.size w W → Calls Tryz.prog 130 #[(.agg #[.slice (some ⟨b, off, none⟩) ws.length cw, .int .i64 semi, .int .i64 toh, .int .i64 top, .bool cyc, .int .i64 scan, .int .i64 old, .int .i64 copied, .int .i64 serial, .slice ar rs.length cr]), .int .i64 (Q : Int), .int .i64 (n : Nat), .agg #[.int .i64 2, .int .i64 ((k : Int) + 1)]] W fun e w' => e = .returned (.tuple #[.int .i64 F.1, .bool F.2]) ∧ Below W.heap.size W w') := fun W h => by
      rw [hF]
      exact l6Find_two b off cw ws semi toh top cyc scan old copied serial ar cr rs _ _ p n W (ar_sl (arx_cells hb HC.out h).1 (arx_cells hb HC.out h).2) (arx_cells hb HC.out h).1 (arx_cells hb HC.out h).2 hn hw (by rw [HQ.out]) HN.out HT.out
    have hFc := fnd_cases (ws := ws) (p := p) ((k : Int) + 1)
    rw [← hF] at hFc
    have HHV : Hid (hasV ws p k = (F.2 && decide (rvT ws (blkN ws p + 1 + 4 * F.1.toNat + 2) ≠ 0))) := by show _ = _; unfold hasV; rw [← hF]
    clear hF
    by_cases hf : F.2 = true
    · obtain ⟨r, hr, e, hs⟩ : ∃ r : Nat, r < capB ws p ∧ F = ((r : Int), true) ∧ sameV ws (kT ws (blkN ws p) r) (kN ws (blkN ws p) r) 2 ((k : Int) + 1) = true := by
        rcases hFc with g | ⟨r, _, g, _⟩ | ⟨r, hr, g, hs⟩
        · rw [g] at hf; simp at hf
        · rw [g] at hf; simp at hf
        · exact ⟨r, hr, g, hs⟩
      subst e
      have HV6 : Hid (∀ W, Below w.heap.size w W → Calls Tryz.prog 159 #[(.agg #[.slice (some ⟨b, off, none⟩) ws.length cw, .int .i64 semi, .int .i64 toh, .int .i64 top, .bool cyc, .int .i64 scan, .int .i64 old, .int .i64 copied, .int .i64 serial, .slice ar rs.length cr]), .int .i64 (Q : Int), .int .i64 (r : Int)] W fun e w' => e = .returned (.agg #[.int .i64 (rvT ws (Q + 3 + 4 * r)), .int .i64 (rvN ws (Q + 3 + 4 * r))]) ∧ Below W.heap.size W w') := fun W h =>
        l6Value_at _ _ ws semi toh top cyc scan old copied serial ar cr rs _ _ Q r W rfl rfl (ar_sl (arx_cells hb HC.out h).1 (arx_cells hb HC.out h).2) hn hw (by have := HKK.out (by omega); have := HQ.out; omega)
      have HHW : Hid (hasV ws p k = decide (rvT ws (Q + 3 + 4 * r) ≠ 0)) := by
        show _ = _
        rw [HHV.out, ← HQ.out]
        have e3 : Q + 1 + 4 * r + 2 = Q + 3 + 4 * r := by omega
        simp only [Bool.true_and, Int.toNat_natCast, e3]
      clear hs hFc hf HHV
      by_cases hv : rvT ws (Q + 3 + 4 * r) = 0
      · have HE : Hid (brd ws p = k) := by show _ = _; rw [HB.out]; simp [brdF, HHW.out, hv]
        have ev : (rvT ws (Q + 3 + 4 * r) == 0) = true := by simp [hv]
        clear hv
        go_wp2_with (first | (go_at_call 130; refine (HFI.out _ HBr.out).mono ?_; rintro e w2 ⟨rfl, b2⟩; have B2 := below_next HBr.out b2; have k2 := has_below kr b2 zr) | (go_at_call 159; refine (HV6.out _ B2).mono ?_; rintro e w3 ⟨rfl, b3⟩; have B3 := below_next B2 b3))
        go_ret
        exact ⟨ret_int (by rw [HE.out]), B3⟩
      · have hvt : hasV ws p k = true := by rw [HHW.out]; simp [hv]
        have hk1 : k + 1 ≤ capB ws p := hasV_le (fun j hj => by
          by_cases e : j = k
          · rw [e]; exact hvt
          · exact HA.out j (by omega))
        have HE : Hid (brd ws p = brdF ws p (65 - (k + 1)) (k + 1)) := by
          show _ = _
          rw [HB.out, show 65 - (k + 1) = 64 - k by omega]; simp [brdF, hvt]
        have HA' : Hid (∀ j, j < k + 1 → hasV ws p j = true) := fun j hj => by
          by_cases e : j = k
          · rw [e]; exact hvt
          · exact HA.out j (by omega)
        have ev : (rvT ws (Q + 3 + 4 * r) == 0) = false := by simp [hv]
        clear hv hvt
        go_wp2_with (first | (go_at_call 130; refine (HFI.out _ HBr.out).mono ?_; rintro e w2 ⟨rfl, b2⟩; have B2 := below_next hB b2; have B2' := below_next HBr.out b2; have k2 := has_below kr b2 zr) | (go_at_call 159; refine (HV6.out _ B2').mono ?_; rintro e w3 ⟨rfl, b3⟩; have B3 := below_next B2 b3))
        exact ⟨⟨k + 1, by omega, by go_num, HE, HA', B3⟩, by simp [intOf]; omega⟩
    · have hf' : F.2 = false := by simpa using hf
      have HE : Hid (brd ws p = k) := by show _ = _; rw [HB.out]; simp [brdF, HHV.out, hf']
      clear hf hFc HHV
      go_wp2_with (first | (go_at_call 130; refine (HFI.out _ HBr.out).mono ?_; rw [hf']; rintro e w2 ⟨rfl, b2⟩; have B2 := below_next HBr.out b2))
      go_ret
      exact ⟨ret_int (by rw [HE.out]), B2⟩
end Go.Proofs.YtaapiedminakcaaGreat

/- The program's border. -/
namespace Go.Proofs.YtaapiedminakcaaGreat
set_option maxRecDepth 20000
open Go.RowKit
set_option linter.unusedSimpArgs false
set_option linter.unusedVariables false

theorem valuePlace_at (x y : Int) (Q k : Nat) (w : World) (hx : x = Q) (hy : y = k) (h : Q + 1 + 4 * k ≤ 8000000) :
    Calls Tryz.prog 162 #[.int .i64 x, .int .i64 y] w fun e w' => e = .returned (.int .i64 ((Q + 3 + 4 * k : Nat) : Int)) ∧ w = w' := by
  have HX : Hid (x = (Q : Int)) := hx
  have HY : Hid (y = (k : Int)) := hy
  have h' : (Q : Int) + 1 + 4 * (k : Int) ≤ 8000000 := by omega
  clear hx hy
  go_enter Tryz.func162, Tryz.ntmps162
  go_wp2_with (go_at_call 188; refine (keyPlace_at _ _ Q k _ HX.out HY.out (by omega)).mono ?_; rintro e w1 ⟨rfl, rfl⟩)
  go_ret
  exact ⟨ret_int (by go_num), rfl⟩
theorem findEntry_no (K c : Nat) (t m : Int) (x : ByteArray) (w : World) :
    Calls Tryz.prog 189 #[.slice (some ⟨K, 0, none⟩) 0 c, .agg #[.int .i64 t, .int .i64 m, .string x]] w fun e w' => e = .returned (.int .i64 (-1)) ∧ Below w.heap.size w w' := by
  go_enter Tryz.func189, Tryz.ntmps189
  go_wp2_with fail
  go_step3
  go_wp2
  first | (rw [Exit.noGoto_ret]; go_ret) | go_ret
  exact ⟨rfl, below_first (Below.refl _ _)⟩
theorem entryWith_neg (K c n : Nat) (T N : Nat → Int) (X : Nat → ByteArray) (t m : Int) (x : ByteArray)  (w : World) (hK : KeysAre w K n T N X) (hn : n ≤ 64) (HF : Hid (∀ W, KeysAre W K n T N X → Calls Tryz.prog 189 #[.slice (some ⟨K, 0, none⟩) n c, .agg #[.int .i64 t, .int .i64 m, .string x]] W fun e w' => e = .returned (.int .i64 (-1)) ∧ Below W.heap.size W w')) :
    Calls Tryz.prog 161 #[.slice (some ⟨K, 0, none⟩) n c, .agg #[.int .i64 t, .int .i64 m, .string x]] w fun e w' => e = .returned (.int .i64 (-1)) ∧ Below w.heap.size w w' := by
  have heq := eqKey
  have hne := neKey
  have HK : Hid (KeysAre w K n T N X) := hK
  have hKl := hK.lt
  clear hK
  go_enter Tryz.func161, Tryz.ntmps161
  go_wp2_with (go_at_call 189; refine (HF.out _ (World.rowIs.of_block HK.out (((Below.refl w.heap.size w).alloc (Nat.le_refl _) _).block _ hKl))).mono ?_; rintro e w1 ⟨rfl, b1⟩; have B1 := below_first b1; have k1 := one_cells b1 (by simp); have z1 := size_first b1; clear b1)
  clear HK HF
  go_quiet (fail)
  go_wp2
  go_ret
  exact ⟨rfl, below_drewN B1 _⟩
theorem entryWith_miss (K c n : Nat) (T N : Nat → Int) (X : Nat → ByteArray) (t m : Int) (x : ByteArray) (r : Nat) (hr : r < n) (hq : keyB (T r) (N r) (X r) t m x = false) (w : World) (hK : KeysAre w K n T N X) (hn : n ≤ 64) (HF : Hid (∀ W, KeysAre W K n T N X → Calls Tryz.prog 189 #[.slice (some ⟨K, 0, none⟩) n c, .agg #[.int .i64 t, .int .i64 m, .string x]] W fun e w' => e = .returned (.int .i64 (r : Int)) ∧ Below W.heap.size W w')) :
    Calls Tryz.prog 161 #[.slice (some ⟨K, 0, none⟩) n c, .agg #[.int .i64 t, .int .i64 m, .string x]] w fun e w' => e = .returned (.int .i64 (-1)) ∧ Below w.heap.size w w' := by
  have heq := eqKey
  have hne := neKey
  have HK : Hid (KeysAre w K n T N X) := hK
  have hKl := hK.lt
  have hr' : (r : Int) < (n : Int) := by omega
  have n1' : (n : Int) ≤ 64 := by omega
  clear hK
  go_enter Tryz.func161, Tryz.ntmps161
  go_wp2_with (go_at_call 189; refine (HF.out _ (World.rowIs.of_block HK.out (((Below.refl w.heap.size w).alloc (Nat.le_refl _) _).block _ hKl))).mono ?_; rintro e w1 ⟨rfl, b1⟩; have B1 := below_first b1; have k1 := one_cells b1 (by simp); have z1 := size_first b1; clear b1)
  have hK1 : KeysAre w1 K n T N X := World.rowIs.of_block HK.out (B1.block _ hKl)
  have g0 := hK1.cell (i := r * 3) (by omega)
  have g1 := hK1.cell (i := r * 3 + 1) (by omega)
  have g2 := hK1.cell (i := r * 3 + 2) (by omega)
  rw [keyC_0] at g0
  rw [keyC_1] at g1
  rw [keyC_2] at g2
  clear hK1 HK HF
  go_quiet (fail)
  go_wp2
  go_ret
  exact ⟨rfl, below_drewN B1 _⟩
theorem entryWith_hit (K c n : Nat) (T N : Nat → Int) (X : Nat → ByteArray) (t m : Int) (x : ByteArray) (r : Nat) (hr : r < n) (hq : keyB (T r) (N r) (X r) t m x = true) (hz : keyB t m x 0 0 ⟨#[]⟩ = false) (w : World) (hK : KeysAre w K n T N X) (hn : n ≤ 64) (HF : Hid (∀ W, KeysAre W K n T N X → Calls Tryz.prog 189 #[.slice (some ⟨K, 0, none⟩) n c, .agg #[.int .i64 t, .int .i64 m, .string x]] W fun e w' => e = .returned (.int .i64 (r : Int)) ∧ Below W.heap.size W w')) :
    Calls Tryz.prog 161 #[.slice (some ⟨K, 0, none⟩) n c, .agg #[.int .i64 t, .int .i64 m, .string x]] w fun e w' => e = .returned (.int .i64 (r : Int)) ∧ Below w.heap.size w w' := by
  have heq := eqKey
  have hne := neKey
  have HK : Hid (KeysAre w K n T N X) := hK
  have hKl := hK.lt
  have hr' : (r : Int) < (n : Int) := by omega
  have n1' : (n : Int) ≤ 64 := by omega
  clear hK
  go_enter Tryz.func161, Tryz.ntmps161
  go_wp2_with (go_at_call 189; refine (HF.out _ (World.rowIs.of_block HK.out (((Below.refl w.heap.size w).alloc (Nat.le_refl _) _).block _ hKl))).mono ?_; rintro e w1 ⟨rfl, b1⟩; have B1 := below_first b1; have k1 := one_cells b1 (by simp); have z1 := size_first b1; clear b1)
  have hK1 : KeysAre w1 K n T N X := World.rowIs.of_block HK.out (B1.block _ hKl)
  have g0 := hK1.cell (i := r * 3) (by omega)
  have g1 := hK1.cell (i := r * 3 + 1) (by omega)
  have g2 := hK1.cell (i := r * 3 + 2) (by omega)
  rw [keyC_0] at g0
  rw [keyC_1] at g1
  rw [keyC_2] at g2
  clear hK1 HK HF
  go_quiet (fail)
  go_wp2
  go_ret
  exact ⟨rfl, below_drewN B1 _⟩
/-- keysOf at a table's block. -/
theorem keysOf_tab (b off cw : Nat) (ws : List Int) (semi toh top : Int) (cyc : Bool) (scan old copied serial : Int) (ar : Option Addr) (cr : Nat) (rs : List (Int × Int)) (p : Nat) (w : World) (hb : b < w.heap.size) (hc : ∀ i, i < ws.length → w.cell? ⟨b, off + i, none⟩ = some (.int .u64 (wordAt ws i))) (hn : ws.length ≤ 1048576) (hw : Words64 ws) (hT : TabIs ws p) :
    Calls Tryz.prog 160 #[(.agg #[.slice (some ⟨b, off, none⟩) ws.length cw, .int .i64 semi, .int .i64 toh, .int .i64 top, .bool cyc, .int .i64 scan, .int .i64 old, .int .i64 copied, .int .i64 serial, .slice ar rs.length cr]), .int .i64 (blkN ws p : Nat)] w fun e w' => ∃ K, e = .returned (.slice (some ⟨K, 0, none⟩) (capB ws p) (capB ws p)) ∧ w.heap.size ≤ K ∧ KeysAre w' K (capB ws p) (kT ws (blkN ws p)) (pN ws (blkN ws p)) (pS ws (blkN ws p)) ∧ Below w.heap.size w w' := by
  obtain ⟨h64, hk⟩ := tab_cap hT
  by_cases e : capB ws p = 0
  · have e2 : blkN ws p = 0 := by
      unfold capB at e
      unfold blkN
      by_cases h : rvT ws (p + 2) = 0
      · rw [if_pos h]
      · rw [if_neg h] at e
        rcases hT.2.1 with g | g
        · exact absurd g h
        · have := (hT.1.2 g).2.2.2.2.1; omega
    rw [e, e2]
    exact keysOf_no b off cw ws semi toh top cyc scan old copied serial ar cr rs _ _ _ w
  · obtain ⟨a0, a7, ac, al, _⟩ := hk e
    exact keysOf_at b off cw ws semi toh top cyc scan old copied serial ar cr rs _ (blkN ws p) (capB ws p) w rfl a0 hb hc hn hw ac.symm (rdS_ge _ (word_in hw _).1) h64 a7
/-- entryWith at a table's keys, of a number. -/
theorem entryWith_two (ws : List Int) (p K c n : Nat) (m : Int) (F : Int × Bool) (w : World) (hw : Words64 ws) (hT : TabIs ws p) (hcap : n = capB ws p) (hK : KeysAre w K n (kT ws (blkN ws p)) (pN ws (blkN ws p)) (pS ws (blkN ws p))) (hF : fnd ws p m = F) :
    Calls Tryz.prog 161 #[.slice (some ⟨K, 0, none⟩) n c, .agg #[.int .i64 2, .int .i64 m, .string ⟨#[]⟩]] w fun e w' => e = .returned (.int .i64 (if F.2 = true then F.1 else -1)) ∧ Below w.heap.size w w' := by
  obtain ⟨h64, hk⟩ := tab_cap hT
  have hz : keyB 2 m ⟨#[]⟩ 0 0 ⟨#[]⟩ = false := by simp [keyB]
  rcases fnd_cases (ws := ws) (p := p) m with g | ⟨r, hr, g, h0⟩ | ⟨r, hr, g, hs⟩
  all_goals
    rw [hF] at g
    subst g
  · have hF' := hF
    unfold fnd at hF'
    refine entryWith_neg K c n _ _ _ 2 m ⟨#[]⟩ w hK (by omega) (fun W hW => ?_)
    by_cases e : capB ws p = 0
    · rw [hcap, e]; exact findEntry_no K c 2 m ⟨#[]⟩ W
    · obtain ⟨_, a7, _, _, a8⟩ := hk e
      rw [if_neg e] at hF'
      have hh : ∀ j, j < capB ws p → hitK (kT ws (blkN ws p)) (pN ws (blkN ws p)) (pS ws (blkN ws p)) 2 m ⟨#[]⟩ j = (decide (kT ws (blkN ws p) j = 0) || sameV ws (kT ws (blkN ws p) j) (kN ws (blkN ws p) j) 2 m) := fun j hj => by
        unfold hitK; rw [keyB_two, keyB_nil (a8 j hj), Bool.or_comm]
      have hf := find_same (t := 2) (m := m) hh (by omega) (capB ws p) ((hashV ws 2 m).toNat % capB ws p) (Nat.mod_lt _ (by omega))
      have h1 : findE (hitK (kT ws (blkN ws p)) (pN ws (blkN ws p)) (pS ws (blkN ws p)) 2 m ⟨#[]⟩) (capB ws p) (capB ws p) ((hashV ws 2 m).toNat % capB ws p) = -1 := by rw [hf]; show (findV ws (blkN ws p) (capB ws p) 2 m).1 = -1; rw [hF']
      rw [hcap] at hW ⊢
      rw [← h1]
      exact findEntry_at K c _ _ _ _ 2 m ⟨#[]⟩ (hashV ws 2 m) _ W hW (by omega) h64 (fun W => by have := hash_at ws 2 m W (vOk_two m) (by omega) (by omega) (by omega) (key_two ws m) hw; simpa [kyN, kyS] using this) (hashV_in (vOk_two m) (by omega)).1 rfl
  all_goals
    have hF' := hF
    unfold fnd at hF'
    have e : capB ws p ≠ 0 := by omega
    obtain ⟨_, a7, _, _, a8⟩ := hk e
    rw [if_neg e] at hF'
    have hh : ∀ j, j < capB ws p → hitK (kT ws (blkN ws p)) (pN ws (blkN ws p)) (pS ws (blkN ws p)) 2 m ⟨#[]⟩ j = (decide (kT ws (blkN ws p) j = 0) || sameV ws (kT ws (blkN ws p) j) (kN ws (blkN ws p) j) 2 m) := fun j hj => by
      unfold hitK; rw [keyB_two, keyB_nil (a8 j hj), Bool.or_comm]
    have hf := find_same (t := 2) (m := m) hh (by omega) (capB ws p) ((hashV ws 2 m).toNat % capB ws p) (Nat.mod_lt _ (by omega))
    have h1 : findE (hitK (kT ws (blkN ws p)) (pN ws (blkN ws p)) (pS ws (blkN ws p)) 2 m ⟨#[]⟩) (capB ws p) (capB ws p) ((hashV ws 2 m).toNat % capB ws p) = (r : Int) := by rw [hf]; show (findV ws (blkN ws p) (capB ws p) 2 m).1 = (r : Int); rw [hF']
    have HFE : Hid (∀ W, KeysAre W K n (kT ws (blkN ws p)) (pN ws (blkN ws p)) (pS ws (blkN ws p)) → Calls Tryz.prog 189 #[.slice (some ⟨K, 0, none⟩) n c, .agg #[.int .i64 2, .int .i64 m, .string ⟨#[]⟩]] W fun e w' => e = .returned (.int .i64 (r : Int)) ∧ Below W.heap.size W w') := fun W hW => by
      rw [hcap] at hW ⊢
      rw [← h1]
      exact findEntry_at K c _ _ _ _ 2 m ⟨#[]⟩ (hashV ws 2 m) _ W hW (by omega) h64 (fun W => by have := hash_at ws 2 m W (vOk_two m) (by omega) (by omega) (by omega) (key_two ws m) hw; simpa [kyN, kyS] using this) (hashV_in (vOk_two m) (by omega)).1 rfl
  · exact entryWith_miss K c n _ _ _ 2 m ⟨#[]⟩ r (by omega) (by rw [keyB_two]; unfold sameV; rw [h0]; rfl) w hK (by omega) HFE
  · exact entryWith_hit K c n _ _ _ 2 m ⟨#[]⟩ r (by omega) (by rw [keyB_two]; exact hs) hz w hK (by omega) HFE
set_option maxHeartbeats 2000000 in
theorem border_at (b off cw : Nat) (ws : List Int) (semi toh top : Int) (cyc : Bool) (scan old copied serial : Int) (ar : Option Addr) (cr : Nat) (rs : List (Int × Int)) (x : Int) (p : Nat) (w : World) (hx : x = p) (hb : b < w.heap.size) (hc : ∀ i, i < ws.length → w.cell? ⟨b, off + i, none⟩ = some (.int .u64 (wordAt ws i))) (hn : ws.length ≤ 1048576) (hw : Words64 ws) (hT : TabIs ws p) :
    Calls Tryz.prog 118 #[(.agg #[.slice (some ⟨b, off, none⟩) ws.length cw, .int .i64 semi, .int .i64 toh, .int .i64 top, .bool cyc, .int .i64 scan, .int .i64 old, .int .i64 copied, .int .i64 serial, .slice ar rs.length cr]), .int .i64 x] w fun e w' => e = .returned (.int .i64 (brd ws p : Nat)) ∧ Below w.heap.size w w' := by
  have HT : Hid (TabIs ws p) := hT
  have h64 := (tab_cap hT).1
  have HKK : Hid (capB ws p ≠ 0 → blkN ws p + 4 * capB ws p < ws.length) := fun e => ((tab_cap hT).2 e).2.1.1
  have HC : Hid (∀ i, i < ws.length → w.cell? ⟨b, off + i, none⟩ = some (.int .u64 (wordAt ws i))) := hc
  have hft := field_tag
  obtain ⟨Q, hQ⟩ : ∃ Q, Q = blkN ws p := ⟨_, rfl⟩
  obtain ⟨n, hcn⟩ : ∃ n, n = capB ws p := ⟨_, rfl⟩
  have HQ : Hid (Q = blkN ws p) := hQ
  have HN : Hid (n = capB ws p) := hcn
  have HL6 := fun W (h : Below w.heap.size w W) => blockOf_tab b off cw ws semi toh top cyc scan old copied serial ar cr rs x p W hx (arx_cells hb hc h).1 (arx_cells hb hc h).2 hn hw hT
  have HL7 := fun W (h : Below w.heap.size w W) => keysOf_tab b off cw ws semi toh top cyc scan old copied serial ar cr rs p W (arx_cells hb hc h).1 (arx_cells hb hc h).2 hn hw hT
  rw [← hQ] at HL6
  rw [← hQ, ← hcn] at HL7
  have HL : Hid (∀ W, Below w.heap.size w W → _) := HL6
  have HM : Hid (∀ W, Below w.heap.size w W → _) := HL7
  clear hx hc hT hQ hcn HL6 HL7
  go_enter Tryz.func118, Tryz.ntmps118
  go_wp2_with (first | (go_at_call 121; refine (HL.out _ (below_first (Below.refl _ _))).mono ?_; rintro e w1 ⟨rfl, b1⟩; have B1 := below_first b1; have k1 := one_cells b1 (by simp); have z1 := size_first b1; clear b1) | (go_at_call 160; refine (HM.out _ B1).mono ?_; rintro e w2 ⟨K, rfl, hKl, hK, b2⟩; have B2 := below_next B1 b2; have k2 := has_below k1 b2 z1; have z2 := Nat.lt_of_lt_of_le z1 b2.size; clear b2 k1))
  have k2' : Hid (∀ i, w2.cell? ⟨w.heap.size, i, none⟩ = (#[.slice (some ⟨b, off, none⟩) ws.length cw, .int .i64 semi, .int .i64 toh, .int .i64 top, .bool cyc, .int .i64 scan, .int .i64 old, .int .i64 copied, .int .i64 serial, .slice ar rs.length cr] : Array Value)[i]?) := k2
  have HK2 : Hid (KeysAre w2 K n (kT ws Q) (pN ws Q) (pS ws Q)) := hK
  have lK := hK.lt
  clear k2 HL HM hK
  go_loopw [7] (fun u7 wr => ∃ k : Nat, k ≤ 64 ∧ u7 = .int .i64 k ∧ Hid (brd ws p = brdF ws p (65 - k) k) ∧ Hid (∀ j, j < k → hasV ws p j = true) ∧ Below w2.heap.size w2 wr) (fun u7 _ => 65 - (intOf u7).toNat)
  case atStart => exact ⟨0, by omega, rfl, rfl, fun j hj => absurd hj (Nat.not_lt_zero j), Below.refl _ _⟩
  case round =>
    obtain ⟨k, hk, rfl, HB, HA, hB⟩ := hrel
    have kr : ∀ i, wr.cell? ⟨w.heap.size, i, none⟩ = (#[.slice (some ⟨b, off, none⟩) ws.length cw, .int .i64 semi, .int .i64 toh, .int .i64 top, .bool cyc, .int .i64 scan, .int .i64 old, .int .i64 copied, .int .i64 serial, .slice ar rs.length cr] : Array Value)[i]? := has_below k2'.out hB z2
    have HBr : Hid (Below w.heap.size w wr) := below_next B2 hB
    have hk' : (k : Int) ≤ 64 := by omega
    have h65 : 65 - k = (64 - k) + 1 := by omega
    rw [h65] at HB
    have zr : w.heap.size < wr.heap.size := Nat.lt_of_lt_of_le z2 hB.size
    have HKr : Hid (KeysAre wr K n (kT ws Q) (pN ws Q) (pS ws Q)) := World.rowIs.of_block HK2.out (hB.block _ lK)
    obtain ⟨F, hF⟩ : ∃ F, F = fnd ws p ((k : Int) + 1) := ⟨_, rfl⟩
    have HFI : Hid (Calls Tryz.prog 161 #[.slice (some ⟨K, 0, none⟩) n n, .agg #[.int .i64 2, .int .i64 ((k : Int) + 1), .string ⟨#[]⟩]] wr fun e w' => e = .returned (.int .i64 (if F.2 = true then F.1 else -1)) ∧ Below wr.heap.size wr w') :=
      entryWith_two ws p K n n _ F wr hw HT.out HN.out (by rw [← HQ.out]; exact HKr.out) hF.symm
    have hFc := fnd_cases (ws := ws) (p := p) ((k : Int) + 1)
    rw [← hF] at hFc
    have HHV : Hid (hasV ws p k = (F.2 && decide (rvT ws (blkN ws p + 1 + 4 * F.1.toNat + 2) ≠ 0))) := by show _ = _; unfold hasV; rw [← hF]
    clear hF
    by_cases hf : F.2 = true
    · obtain ⟨r, hr, e, hs⟩ : ∃ r : Nat, r < capB ws p ∧ F = ((r : Int), true) ∧ sameV ws (kT ws (blkN ws p) r) (kN ws (blkN ws p) r) 2 ((k : Int) + 1) = true := by
        rcases hFc with g | ⟨r, _, g, _⟩ | ⟨r, hr, g, hs⟩
        · rw [g] at hf; simp at hf
        · rw [g] at hf; simp at hf
        · exact ⟨r, hr, g, hs⟩
      subst e
      have hr64 : (r : Int) ≤ 64 := by omega
      have rneg : ((r : Int) < 0) = False := by simp
      have hPl : Q + 3 + 4 * r + 1 < ws.length := by have := HKK.out (by omega); have := HQ.out; omega
      have HHW : Hid (hasV ws p k = decide (rvT ws (Q + 3 + 4 * r) ≠ 0)) := by
        show _ = _
        rw [HHV.out, ← HQ.out]
        have e3 : Q + 1 + 4 * r + 2 = Q + 3 + 4 * r := by omega
        simp only [Bool.true_and, Int.toNat_natCast, e3]
      have HR : Hid (Calls Tryz.prog 161 #[.slice (some ⟨K, 0, none⟩) n n, .agg #[.int .i64 2, .int .i64 ((k : Int) + 1), .string ⟨#[]⟩]] wr fun e w' => e = .returned (.int .i64 (r : Int)) ∧ Below wr.heap.size wr w') := HFI.out
      clear hs hFc hf HHV HFI
      go_upto_region 5 with (go_at_call 161; refine HR.out.mono ?_; rintro e w3 ⟨rfl, b3⟩)
      have B3 := below_next HBr.out b3
      have B3' := below_next hB b3
      have k3 := has_below kr b3 zr
      have z3 := Nat.lt_of_lt_of_le zr b3.size
      have KP : ∀ W, Below w3.heap.size w3 W → (Below w3.heap.size w3 W ∧ (∀ i, W.cell? ⟨w.heap.size, i, none⟩ = (#[.slice (some ⟨b, off, none⟩) ws.length cw, .int .i64 semi, .int .i64 toh, .int .i64 top, .bool cyc, .int .i64 scan, .int .i64 old, .int .i64 copied, .int .i64 serial, .slice ar rs.length cr] : Array Value)[i]?)) := fun W hW => ⟨hW, has_below k3 hW z3⟩
      have b3' := (Below.refl w3.heap.size w3).drew
      have HCW : ∀ W, Below w3.heap.size w3 W → Sl W (.slice (some ⟨b, off, none⟩) ws.length cw) ws := fun W hW => ar_sl (arx_cells hb HC.out (below_next B3 hW)).1 (arx_cells hb HC.out (below_next B3 hW)).2
      clear b3 kr HR
      by_cases hv : rvT ws (Q + 3 + 4 * r) = 0
      · have HE : Hid (brd ws p = k) := by show _ = _; rw [HB.out]; simp [brdF, HHW.out, hv]
        have ev : (rvT ws (Q + 3 + 4 * r) == 0) = true := by simp [hv]
        clear hv
        go_region_held3 (fun W => Below w3.heap.size w3 W ∧ (∀ i, W.cell? ⟨w.heap.size, i, none⟩ = (#[.slice (some ⟨b, off, none⟩) ws.length cw, .int .i64 semi, .int .i64 toh, .int .i64 top, .bool cyc, .int .i64 scan, .int .i64 old, .int .i64 copied, .int .i64 serial, .slice ar rs.length cr] : Array Value)[i]?)) (first | assumption | exact KP _ b3' | exact KP _ (by assumption)) (first | (go_at_call 162; refine (valuePlace_at _ _ Q r _ rfl rfl (by omega)).mono ?_; rintro e wo ⟨rfl, rfl⟩) | (go_at_call 158; refine (slotAt_at _ _ _ _ _ _ _ _ _ _ _ _ _ _ _ (Q + 3 + 4 * r) _ rfl (HCW _ (And.left (by assumption))) hn hw hPl).mono ?_; rintro e wt ⟨rfl, bb⟩; have hBt := below_next (w := w3) (And.left (by assumption)) bb; clear bb))
        all_goals
          go_wp2
          go_ret
          exact ⟨ret_int (by rw [HE.out]), below_next B3 hBt⟩
      · have hvt : hasV ws p k = true := by rw [HHW.out]; simp [hv]
        have hk1 : k + 1 ≤ capB ws p := hasV_le (fun j hj => by
          by_cases e : j = k
          · rw [e]; exact hvt
          · exact HA.out j (by omega))
        have HE : Hid (brd ws p = brdF ws p (65 - (k + 1)) (k + 1)) := by
          show _ = _
          rw [HB.out, show 65 - (k + 1) = 64 - k by omega]; simp [brdF, hvt]
        have HA' : Hid (∀ j, j < k + 1 → hasV ws p j = true) := fun j hj => by
          by_cases e : j = k
          · rw [e]; exact hvt
          · exact HA.out j (by omega)
        have ev : (rvT ws (Q + 3 + 4 * r) == 0) = false := by simp [hv]
        clear hv hvt
        go_region_held3 (fun W => Below w3.heap.size w3 W ∧ (∀ i, W.cell? ⟨w.heap.size, i, none⟩ = (#[.slice (some ⟨b, off, none⟩) ws.length cw, .int .i64 semi, .int .i64 toh, .int .i64 top, .bool cyc, .int .i64 scan, .int .i64 old, .int .i64 copied, .int .i64 serial, .slice ar rs.length cr] : Array Value)[i]?)) (first | assumption | exact KP _ b3' | exact KP _ (by assumption)) (first | (go_at_call 162; refine (valuePlace_at _ _ Q r _ rfl rfl (by omega)).mono ?_; rintro e wo ⟨rfl, rfl⟩) | (go_at_call 158; refine (slotAt_at _ _ _ _ _ _ _ _ _ _ _ _ _ _ _ (Q + 3 + 4 * r) _ rfl (HCW _ (And.left (by assumption))) hn hw hPl).mono ?_; rintro e wt ⟨rfl, bb⟩; have hBt := below_next (w := w3) (And.left (by assumption)) bb; clear bb))
        all_goals
          go_wp2
          exact ⟨⟨k + 1, by omega, by go_num, HE, HA', below_next B3' hBt⟩, by simp [intOf]; omega⟩
    · have hf' : F.2 = false := by simpa using hf
      have HE : Hid (brd ws p = k) := by show _ = _; rw [HB.out]; simp [brdF, HHV.out, hf']
      have HR : Hid (Calls Tryz.prog 161 #[.slice (some ⟨K, 0, none⟩) n n, .agg #[.int .i64 2, .int .i64 ((k : Int) + 1), .string ⟨#[]⟩]] wr fun e w' => e = .returned (.int .i64 (-1)) ∧ Below wr.heap.size wr w') := by have := HFI.out; rw [hf'] at this; exact this
      clear hf hFc HHV HFI
      go_upto_region 5 with (go_at_call 161; refine HR.out.mono ?_; rintro e w3 ⟨rfl, b3⟩)
      go_quiet (fail)
      go_wp2
      go_ret
      exact ⟨ret_int (by rw [HE.out]), below_drewN (below_next HBr.out b3) _⟩
end Go.Proofs.YtaapiedminakcaaGreat

/- Border of both packages. -/
namespace Go.Proofs.YtaapiedminakcaaGreat
set_option maxRecDepth 20000
open Go.RowKit
set_option linter.unusedSimpArgs false
set_option linter.unusedVariables false

set_option maxHeartbeats 2000000 in
theorem specBorder_w0 (aw : Option Addr) (cw : Nat) (ws : List Int) (semi toh top : Int) (cyc : Bool) (scan old copied serial : Int) (ar : Option Addr) (cr : Nat) (rs : List (Int × Int)) (r : Int) (y : Nat → Int) (Tr : Nat) (w : World) (hs : Sl w (.slice aw ws.length cw) ws) (hn : ws.length ≤ 1048576) (hw : Words64 ws) (hrt : SlF Tr w (.slice ar rs.length cr) rs.length (2 * rs.length) (fun i => .int .i64 (y i))) (hn2 : rs.length ≤ 1048576) (hok : ¬ ArOk ws semi toh top cyc scan old copied serial y rs.length) :
    Calls Tryz.prog 60 #[.agg #[.slice aw ws.length cw, .int .i64 semi, .int .i64 toh, .int .i64 top, .bool cyc, .int .i64 scan, .int .i64 old, .int .i64 copied, .int .i64 serial, .slice ar rs.length cr], .int .i64 r] w fun e w' => e = .returned (.int .i64 (-1)) ∧ Below w.heap.size w w' := by
  have HS : Hid (Sl w (.slice aw ws.length cw) ws) := hs
  have HR : Hid (SlF w.heap.size w (.slice ar rs.length cr) rs.length (2 * rs.length) (fun i => .int .i64 (y i))) := hrt.here
  have HQ : Hid (¬ ArOk ws semi toh top cyc scan old copied serial y rs.length) := hok
  clear hs hrt hok
  go_enter Tryz.func60, Tryz.ntmps60
  go_wp2_with fail
  refine (specArenaOk_at _ _ _ _ _ _ _ _ _ _ _ _ _ _ y w.heap.size _ (HS.out.below (below_first (Below.refl _ _))) hn hw (HR.out.below (below_first (Below.refl _ _)) (Nat.le_refl _)) hn2).mono ?_
  rintro e w1 ⟨q1, rfl, hq, b1⟩
  obtain rfl : q1 = false := by
    cases q1 with
    | false => rfl
    | true => exact absurd (hq.1 rfl) HQ.out
  have k1 := one_cells b1 (by simp)
  have B1 := below_first b1
  have z1 := size_first b1
  clear b1 hq
  go_wp2
  go_ret
  exact ⟨rfl, B1⟩
set_option maxHeartbeats 2000000 in
theorem specBorder_w1 (aw : Option Addr) (cw : Nat) (ws : List Int) (semi toh top : Int) (cyc : Bool) (scan old copied serial : Int) (ar : Option Addr) (cr : Nat) (rs : List (Int × Int)) (r : Int) (y : Nat → Int) (Tr : Nat) (w : World) (hs : Sl w (.slice aw ws.length cw) ws) (hn : ws.length ≤ 1048576) (hw : Words64 ws) (hrt : SlF Tr w (.slice ar rs.length cr) rs.length (2 * rs.length) (fun i => .int .i64 (y i))) (hn2 : rs.length ≤ 1048576) (hok : ArOk ws semi toh top cyc scan old copied serial y rs.length) (hr : isTb y rs.length r = false) :
    Calls Tryz.prog 60 #[.agg #[.slice aw ws.length cw, .int .i64 semi, .int .i64 toh, .int .i64 top, .bool cyc, .int .i64 scan, .int .i64 old, .int .i64 copied, .int .i64 serial, .slice ar rs.length cr], .int .i64 r] w fun e w' => e = .returned (.int .i64 (-1)) ∧ Below w.heap.size w w' := by
  have HS : Hid (Sl w (.slice aw ws.length cw) ws) := hs
  have HR : Hid (SlF w.heap.size w (.slice ar rs.length cr) rs.length (2 * rs.length) (fun i => .int .i64 (y i))) := hrt.here
  have HQ : Hid (ArOk ws semi toh top cyc scan old copied serial y rs.length) := hok
  clear hs hrt hok
  go_enter Tryz.func60, Tryz.ntmps60
  go_wp2_with fail
  refine (specArenaOk_at _ _ _ _ _ _ _ _ _ _ _ _ _ _ y w.heap.size _ (HS.out.below (below_first (Below.refl _ _))) hn hw (HR.out.below (below_first (Below.refl _ _)) (Nat.le_refl _)) hn2).mono ?_
  rintro e w1 ⟨q1, rfl, hq, b1⟩
  obtain rfl := hq.2 HQ.out
  have k1 := one_cells b1 (by simp)
  have B1 := below_first b1
  have z1 := size_first b1
  clear b1 hq
  go_wp2_with fail
  refine (l6Is_at _ _ _ _ _ _ _ _ _ _ _ _ _ _ _ y w.heap.size _ (HR.out.below B1 (Nat.le_refl _)) hn2).mono ?_
  rintro e w2 ⟨rfl, b2⟩
  rw [hr]
  have k2 := has_below k1 b2 z1
  have B2 := below_next B1 b2
  have z2 := Nat.lt_of_lt_of_le z1 b2.size
  clear b2 k1 z1
  go_wp2
  go_ret
  exact ⟨rfl, B2⟩
set_option maxHeartbeats 2000000 in
theorem specBorder_w3 (aw : Option Addr) (cw : Nat) (ws : List Int) (semi toh top : Int) (cyc : Bool) (scan old copied serial : Int) (ar : Option Addr) (cr : Nat) (rs : List (Int × Int)) (r p : Nat) (y : Nat → Int) (Tr : Nat) (w : World) (hs : Sl w (.slice aw ws.length cw) ws) (hn : ws.length ≤ 1048576) (hw : Words64 ws) (hrt : SlF Tr w (.slice ar rs.length cr) rs.length (2 * rs.length) (fun i => .int .i64 (y i))) (hn2 : rs.length ≤ 1048576) (hok : ArOk ws semi toh top cyc scan old copied serial y rs.length) (hr : r < rs.length) (ht : y (2 * r) = 4) (hp : y (2 * r + 1) = (p : Int)) (tp : TabIs ws p) :
    Calls Tryz.prog 60 #[.agg #[.slice aw ws.length cw, .int .i64 semi, .int .i64 toh, .int .i64 top, .bool cyc, .int .i64 scan, .int .i64 old, .int .i64 copied, .int .i64 serial, .slice ar rs.length cr], .int .i64 r] w fun e w' => e = .returned (.int .i64 (brd ws p : Nat)) ∧ Below w.heap.size w w' := by
  have HT1 : Hid (isTb y rs.length (r : Int) = true) := by show _ = _; simp [isTb, hasR, hr, ht]
  have HS : Hid (Sl w (.slice aw ws.length cw) ws) := hs
  have HR : Hid (SlF w.heap.size w (.slice ar rs.length cr) rs.length (2 * rs.length) (fun i => .int .i64 (y i))) := hrt.here
  have HQ : Hid (ArOk ws semi toh top cyc scan old copied serial y rs.length) := hok
  clear hs hrt hok
  have HPY : Hid (y (2 * r + 1) = (p : Int)) := hp
  have HTY : Hid (y (2 * r) = 4) := ht
  have HPT : Hid (TabIs ws p) := tp
  have hp3 : p + 3 < ws.length := tp.1.1
  clear hp ht tp
  go_enter Tryz.func60, Tryz.ntmps60
  go_wp2_with fail
  refine (specArenaOk_at _ _ _ _ _ _ _ _ _ _ _ _ _ _ y w.heap.size _ (HS.out.below (below_first (Below.refl _ _))) hn hw (HR.out.below (below_first (Below.refl _ _)) (Nat.le_refl _)) hn2).mono ?_
  rintro e w1 ⟨q1, rfl, hq, b1⟩
  obtain rfl := hq.2 HQ.out
  have k1 := one_cells b1 (by simp)
  have B1 := below_first b1
  have z1 := size_first b1
  clear b1 hq
  go_wp2_with fail
  refine (l6Is_at _ _ _ _ _ _ _ _ _ _ _ _ _ _ _ y w.heap.size _ (HR.out.below B1 (Nat.le_refl _)) hn2).mono ?_
  rintro e w2 ⟨rfl, b2⟩
  rw [HT1.out]
  have k2 := has_below k1 b2 z1
  have B2 := below_next B1 b2
  have z2 := Nat.lt_of_lt_of_le z1 b2.size
  clear b2 k1 z1
  obtain ⟨br, offr, cap', hv, _, lbr, hcr⟩ := HR.out.parts (k := 0) (by omega)
  simp only [Value.slice.injEq] at hv
  obtain ⟨rfl, _, rfl⟩ := hv
  have x0 : w2.cell? ⟨br, offr + r * 2, none⟩ = some (.int .i64 4) := by rw [B2.cell (p := ⟨br, offr + r * 2, none⟩) lbr, Nat.mul_comm, ← HTY.out]; exact hcr (2 * r) (by omega)
  have x1 : w2.cell? ⟨br, offr + r * 2 + 1, none⟩ = some (.int .i64 (p : Int)) := by rw [B2.cell (p := ⟨br, offr + r * 2 + 1, none⟩) lbr, Nat.mul_comm, ← HPY.out]; exact hcr (2 * r + 1) (by omega)
  have hr' : (r : Int) < (rs.length : Int) := by omega
  clear hcr
  obtain ⟨b, off, rfl, hb, hc⟩ := sl_open HS.out (by omega)
  have HC : Hid (∀ i, i < ws.length → w.cell? ⟨b, off + i, none⟩ = some (.int .u64 (wordAt ws i))) := hc
  clear hc
  go_upto_region 3 with fail
  have lbw2 : br < w2.heap.size := Nat.lt_of_lt_of_le lbr B2.size
  have KP2 : ∀ V, Below w2.heap.size w2 V → (Below w2.heap.size w2 V ∧ (∀ i, V.cell? ⟨w.heap.size, i, none⟩ = (#[.slice (some ⟨b, off, none⟩) ws.length cw, .int .i64 semi, .int .i64 toh, .int .i64 top, .bool cyc, .int .i64 scan, .int .i64 old, .int .i64 copied, .int .i64 serial, .slice (some ⟨br, offr, none⟩) rs.length cr] : Array Value)[i]?) ∧ V.cell? ⟨br, offr + r * 2, none⟩ = some (.int .i64 4) ∧ V.cell? ⟨br, offr + r * 2 + 1, none⟩ = some (.int .i64 (p : Int))) := fun V hV => ⟨hV, has_below k2 hV z2, by rw [hV.cell (p := ⟨br, offr + r * 2, none⟩) lbw2]; exact x0, by rw [hV.cell (p := ⟨br, offr + r * 2 + 1, none⟩) lbw2]; exact x1⟩
  have bd2 := (Below.refl w2.heap.size w2).drew
  go_region_held3 (fun V => Below w2.heap.size w2 V ∧ (∀ i, V.cell? ⟨w.heap.size, i, none⟩ = (#[.slice (some ⟨b, off, none⟩) ws.length cw, .int .i64 semi, .int .i64 toh, .int .i64 top, .bool cyc, .int .i64 scan, .int .i64 old, .int .i64 copied, .int .i64 serial, .slice (some ⟨br, offr, none⟩) rs.length cr] : Array Value)[i]?) ∧ V.cell? ⟨br, offr + r * 2, none⟩ = some (.int .i64 4) ∧ V.cell? ⟨br, offr + r * 2 + 1, none⟩ = some (.int .i64 (p : Int))) (first | assumption | exact KP2 _ bd2 | exact KP2 _ (by assumption)) (first | (go_at_call 116; refine (l6Border_at _ _ _ _ _ _ _ _ _ _ _ _ _ _ _ _ p _ rfl (arx_cells hb HC.out (below_next B2 (And.left (by assumption)))).1 (arx_cells hb HC.out (below_next B2 (And.left (by assumption)))).2 hn hw HPT.out).mono ?_; rintro e w3 ⟨rfl, bb⟩; have hB3 := below_next (w := w2) (And.left (by assumption)) bb; clear bb))
  all_goals
    go_wp2
    go_ret
    exact ⟨rfl, below_next B2 hB3⟩
set_option maxHeartbeats 2000000 in
theorem implBorder_w0 (aw : Option Addr) (cw : Nat) (ws : List Int) (semi toh top : Int) (cyc : Bool) (scan old copied serial : Int) (ar : Option Addr) (cr : Nat) (rs : List (Int × Int)) (r : Int) (y : Nat → Int) (Tr : Nat) (w : World) (hs : Sl w (.slice aw ws.length cw) ws) (hcw : ws.length ≤ cw) (hn : ws.length ≤ 1048576) (hw : Words64 ws) (hrt : SlF Tr w (.slice ar rs.length cr) rs.length (2 * rs.length) (fun i => .int .i64 (y i))) (hn2 : rs.length ≤ 1048576) (hok : ¬ ArOk ws semi toh top cyc scan old copied serial y rs.length) :
    Calls Tryz.prog 61 #[.agg #[.slice aw ws.length cw, .int .i64 semi, .int .i64 toh, .int .i64 top, .bool cyc, .int .i64 scan, .int .i64 old, .int .i64 copied, .int .i64 serial, .slice ar rs.length cr], .int .i64 r] w fun e w' => e = .returned (.int .i64 (-1)) ∧ Below w.heap.size w w' := by
  have HS : Hid (Sl w (.slice aw ws.length cw) ws) := hs
  have HR : Hid (SlF w.heap.size w (.slice ar rs.length cr) rs.length (2 * rs.length) (fun i => .int .i64 (y i))) := hrt.here
  have HQ : Hid (¬ ArOk ws semi toh top cyc scan old copied serial y rs.length) := hok
  clear hs hrt hok
  go_enter Tryz.func61, Tryz.ntmps61
  go_wp2_with fail
  refine (implArenaOk_at _ _ _ _ _ _ _ _ _ _ _ _ _ _ y w.heap.size _ (HS.out.below (below_first (Below.refl _ _))) hcw hn hw (HR.out.below (below_first (Below.refl _ _)) (Nat.le_refl _)) hn2).mono ?_
  rintro e w1 ⟨q1, rfl, hq, b1⟩
  obtain rfl : q1 = false := by
    cases q1 with
    | false => rfl
    | true => exact absurd (hq.1 rfl) HQ.out
  have k1 := one_cells b1 (by simp)
  have B1 := below_first b1
  have z1 := size_first b1
  clear b1 hq
  go_wp2
  go_ret
  exact ⟨rfl, B1⟩
set_option maxHeartbeats 2000000 in
theorem implBorder_w1 (aw : Option Addr) (cw : Nat) (ws : List Int) (semi toh top : Int) (cyc : Bool) (scan old copied serial : Int) (ar : Option Addr) (cr : Nat) (rs : List (Int × Int)) (r : Int) (y : Nat → Int) (Tr : Nat) (w : World) (hs : Sl w (.slice aw ws.length cw) ws) (hcw : ws.length ≤ cw) (hn : ws.length ≤ 1048576) (hw : Words64 ws) (hrt : SlF Tr w (.slice ar rs.length cr) rs.length (2 * rs.length) (fun i => .int .i64 (y i))) (hn2 : rs.length ≤ 1048576) (hok : ArOk ws semi toh top cyc scan old copied serial y rs.length) (hr : isTb y rs.length r = false) :
    Calls Tryz.prog 61 #[.agg #[.slice aw ws.length cw, .int .i64 semi, .int .i64 toh, .int .i64 top, .bool cyc, .int .i64 scan, .int .i64 old, .int .i64 copied, .int .i64 serial, .slice ar rs.length cr], .int .i64 r] w fun e w' => e = .returned (.int .i64 (-1)) ∧ Below w.heap.size w w' := by
  have HS : Hid (Sl w (.slice aw ws.length cw) ws) := hs
  have HR : Hid (SlF w.heap.size w (.slice ar rs.length cr) rs.length (2 * rs.length) (fun i => .int .i64 (y i))) := hrt.here
  have HQ : Hid (ArOk ws semi toh top cyc scan old copied serial y rs.length) := hok
  clear hs hrt hok
  go_enter Tryz.func61, Tryz.ntmps61
  go_wp2_with fail
  refine (implArenaOk_at _ _ _ _ _ _ _ _ _ _ _ _ _ _ y w.heap.size _ (HS.out.below (below_first (Below.refl _ _))) hcw hn hw (HR.out.below (below_first (Below.refl _ _)) (Nat.le_refl _)) hn2).mono ?_
  rintro e w1 ⟨q1, rfl, hq, b1⟩
  obtain rfl := hq.2 HQ.out
  have k1 := one_cells b1 (by simp)
  have B1 := below_first b1
  have z1 := size_first b1
  clear b1 hq
  go_wp2_with fail
  refine (isTable_at _ _ _ _ _ _ _ _ _ _ _ _ _ _ _ y w.heap.size _ (HR.out.below B1 (Nat.le_refl _)) hn2).mono ?_
  rintro e w2 ⟨rfl, b2⟩
  rw [hr]
  have k2 := has_below k1 b2 z1
  have B2 := below_next B1 b2
  have z2 := Nat.lt_of_lt_of_le z1 b2.size
  clear b2 k1 z1
  go_wp2
  go_ret
  exact ⟨rfl, B2⟩
set_option maxHeartbeats 2000000 in
theorem implBorder_w3 (aw : Option Addr) (cw : Nat) (ws : List Int) (semi toh top : Int) (cyc : Bool) (scan old copied serial : Int) (ar : Option Addr) (cr : Nat) (rs : List (Int × Int)) (r p : Nat) (y : Nat → Int) (Tr : Nat) (w : World) (hs : Sl w (.slice aw ws.length cw) ws) (hcw : ws.length ≤ cw) (hn : ws.length ≤ 1048576) (hw : Words64 ws) (hrt : SlF Tr w (.slice ar rs.length cr) rs.length (2 * rs.length) (fun i => .int .i64 (y i))) (hn2 : rs.length ≤ 1048576) (hok : ArOk ws semi toh top cyc scan old copied serial y rs.length) (hr : r < rs.length) (ht : y (2 * r) = 4) (hp : y (2 * r + 1) = (p : Int)) (tp : TabIs ws p) :
    Calls Tryz.prog 61 #[.agg #[.slice aw ws.length cw, .int .i64 semi, .int .i64 toh, .int .i64 top, .bool cyc, .int .i64 scan, .int .i64 old, .int .i64 copied, .int .i64 serial, .slice ar rs.length cr], .int .i64 r] w fun e w' => e = .returned (.int .i64 (brd ws p : Nat)) ∧ Below w.heap.size w w' := by
  have HT1 : Hid (isTb y rs.length (r : Int) = true) := by show _ = _; simp [isTb, hasR, hr, ht]
  have HS : Hid (Sl w (.slice aw ws.length cw) ws) := hs
  have HR : Hid (SlF w.heap.size w (.slice ar rs.length cr) rs.length (2 * rs.length) (fun i => .int .i64 (y i))) := hrt.here
  have HQ : Hid (ArOk ws semi toh top cyc scan old copied serial y rs.length) := hok
  clear hs hrt hok
  have HPY : Hid (y (2 * r + 1) = (p : Int)) := hp
  have HTY : Hid (y (2 * r) = 4) := ht
  have HPT : Hid (TabIs ws p) := tp
  have hp3 : p + 3 < ws.length := tp.1.1
  clear hp ht tp
  go_enter Tryz.func61, Tryz.ntmps61
  go_wp2_with fail
  refine (implArenaOk_at _ _ _ _ _ _ _ _ _ _ _ _ _ _ y w.heap.size _ (HS.out.below (below_first (Below.refl _ _))) hcw hn hw (HR.out.below (below_first (Below.refl _ _)) (Nat.le_refl _)) hn2).mono ?_
  rintro e w1 ⟨q1, rfl, hq, b1⟩
  obtain rfl := hq.2 HQ.out
  have k1 := one_cells b1 (by simp)
  have B1 := below_first b1
  have z1 := size_first b1
  clear b1 hq
  go_wp2_with fail
  refine (isTable_at _ _ _ _ _ _ _ _ _ _ _ _ _ _ _ y w.heap.size _ (HR.out.below B1 (Nat.le_refl _)) hn2).mono ?_
  rintro e w2 ⟨rfl, b2⟩
  rw [HT1.out]
  have k2 := has_below k1 b2 z1
  have B2 := below_next B1 b2
  have z2 := Nat.lt_of_lt_of_le z1 b2.size
  clear b2 k1 z1
  obtain ⟨br, offr, cap', hv, _, lbr, hcr⟩ := HR.out.parts (k := 0) (by omega)
  simp only [Value.slice.injEq] at hv
  obtain ⟨rfl, _, rfl⟩ := hv
  have x0 : w2.cell? ⟨br, offr + r * 2, none⟩ = some (.int .i64 4) := by rw [B2.cell (p := ⟨br, offr + r * 2, none⟩) lbr, Nat.mul_comm, ← HTY.out]; exact hcr (2 * r) (by omega)
  have x1 : w2.cell? ⟨br, offr + r * 2 + 1, none⟩ = some (.int .i64 (p : Int)) := by rw [B2.cell (p := ⟨br, offr + r * 2 + 1, none⟩) lbr, Nat.mul_comm, ← HPY.out]; exact hcr (2 * r + 1) (by omega)
  have hr' : (r : Int) < (rs.length : Int) := by omega
  clear hcr
  obtain ⟨b, off, rfl, hb, hc⟩ := sl_open HS.out (by omega)
  have HC : Hid (∀ i, i < ws.length → w.cell? ⟨b, off + i, none⟩ = some (.int .u64 (wordAt ws i))) := hc
  clear hc
  go_upto_region 3 with fail
  have lbw2 : br < w2.heap.size := Nat.lt_of_lt_of_le lbr B2.size
  have KP2 : ∀ V, Below w2.heap.size w2 V → (Below w2.heap.size w2 V ∧ (∀ i, V.cell? ⟨w.heap.size, i, none⟩ = (#[.slice (some ⟨b, off, none⟩) ws.length cw, .int .i64 semi, .int .i64 toh, .int .i64 top, .bool cyc, .int .i64 scan, .int .i64 old, .int .i64 copied, .int .i64 serial, .slice (some ⟨br, offr, none⟩) rs.length cr] : Array Value)[i]?) ∧ V.cell? ⟨br, offr + r * 2, none⟩ = some (.int .i64 4) ∧ V.cell? ⟨br, offr + r * 2 + 1, none⟩ = some (.int .i64 (p : Int))) := fun V hV => ⟨hV, has_below k2 hV z2, by rw [hV.cell (p := ⟨br, offr + r * 2, none⟩) lbw2]; exact x0, by rw [hV.cell (p := ⟨br, offr + r * 2 + 1, none⟩) lbw2]; exact x1⟩
  have bd2 := (Below.refl w2.heap.size w2).drew
  go_region_held3 (fun V => Below w2.heap.size w2 V ∧ (∀ i, V.cell? ⟨w.heap.size, i, none⟩ = (#[.slice (some ⟨b, off, none⟩) ws.length cw, .int .i64 semi, .int .i64 toh, .int .i64 top, .bool cyc, .int .i64 scan, .int .i64 old, .int .i64 copied, .int .i64 serial, .slice (some ⟨br, offr, none⟩) rs.length cr] : Array Value)[i]?) ∧ V.cell? ⟨br, offr + r * 2, none⟩ = some (.int .i64 4) ∧ V.cell? ⟨br, offr + r * 2 + 1, none⟩ = some (.int .i64 (p : Int))) (first | assumption | exact KP2 _ bd2 | exact KP2 _ (by assumption)) (first | (go_at_call 118; refine (border_at _ _ _ _ _ _ _ _ _ _ _ _ _ _ _ _ p _ rfl (arx_cells hb HC.out (below_next B2 (And.left (by assumption)))).1 (arx_cells hb HC.out (below_next B2 (And.left (by assumption)))).2 hn hw HPT.out).mono ?_; rintro e w3 ⟨rfl, bb⟩; have hB3 := below_next (w := w2) (And.left (by assumption)) bb; clear bb))
  all_goals
    go_wp2
    go_ret
    exact ⟨rfl, below_next B2 hB3⟩
end Go.Proofs.YtaapiedminakcaaGreat

/- The law FnExactBorder, walked. -/
namespace Go.Proofs.YtaapiedminakcaaGreat
set_option maxRecDepth 20000
open Go.RowKit
set_option linter.unusedSimpArgs false
set_option linter.unusedVariables false

set_option maxHeartbeats 2000000 in
theorem fnExactBorder_by (aw : Option Addr) (cw : Nat) (ws : List Int) (semi toh top : Int) (cyc : Bool) (scan old copied serial : Int) (ar : Option Addr) (cr : Nat) (rs : List (Int × Int)) (r : Int) (y : Nat → Int) (Tr : Nat) (w : World) (ans : Int) (hs : Sl w (.slice aw ws.length cw) ws) (hrt : SlF Tr w (.slice ar rs.length cr) rs.length (2 * rs.length) (fun i => .int .i64 (y i))) (hl1 : ws.length ≤ 9223372036854775807) (hl2 : rs.length ≤ 9223372036854775807)
    (hspec : ws.length ≤ 1048576 → rs.length ≤ 1048576 → ∀ (aw : Option Addr) (cw : Nat) (ar : Option Addr) (cr : Nat) (W : World) (T : Nat), Sl W (.slice aw ws.length cw) ws → SlF T W (.slice ar rs.length cr) rs.length (2 * rs.length) (fun i => .int .i64 (y i)) → Calls Tryz.prog 60 #[.agg #[.slice aw ws.length cw, .int .i64 semi, .int .i64 toh, .int .i64 top, .bool cyc, .int .i64 scan, .int .i64 old, .int .i64 copied, .int .i64 serial, .slice ar rs.length cr], .int .i64 r] W fun e w' => e = .returned (.int .i64 ans) ∧ Below W.heap.size W w')
    (himpl : ws.length ≤ 1048576 → rs.length ≤ 1048576 → ∀ (aw : Option Addr) (cw : Nat) (ar : Option Addr) (cr : Nat) (W : World) (T : Nat), Sl W (.slice aw ws.length cw) ws → ws.length ≤ cw → SlF T W (.slice ar rs.length cr) rs.length (2 * rs.length) (fun i => .int .i64 (y i)) → Calls Tryz.prog 61 #[.agg #[.slice aw ws.length cw, .int .i64 semi, .int .i64 toh, .int .i64 top, .bool cyc, .int .i64 scan, .int .i64 old, .int .i64 copied, .int .i64 serial, .slice ar rs.length cr], .int .i64 r] W fun e w' => e = .returned (.int .i64 ans) ∧ Below W.heap.size W w') :
    Calls Tryz.prog 18 #[.agg #[.slice aw ws.length cw, .int .i64 semi, .int .i64 toh, .int .i64 top, .bool cyc, .int .i64 scan, .int .i64 old, .int .i64 copied, .int .i64 serial, .slice ar rs.length cr], .int .i64 r] w fun e w' => e = .returned (.bool true) ∧ Below w.heap.size w w' := by
  by_cases h : (ws.length : Int) + rs.length ≤ 1048576
  · have hn : ws.length ≤ 1048576 := by omega
    have hn2 : rs.length ≤ 1048576 := by omega
    have h0 : ¬ (1048576 - (ws.length : Int) - rs.length) < 0 := by omega
    have HSZ : ∀ W, _ := fun W => szArena_any aw ws.length cw semi toh top cyc scan old copied serial ar rs.length cr W hl1 hl2
    rw [if_pos h] at HSZ
    have HTA : Hid (∀ W, Below w.heap.size w W → _) := fun W (hW : Below w.heap.size w W) => toArena_at aw cw ws semi toh top cyc scan old copied serial ar cr rs y w.heap.size W (hs.below hW) hn (hrt.here.below hW (Nat.le_refl _)) hn2
    have HSP : Hid _ := hspec hn hn2
    have HIM : Hid _ := himpl hn hn2
    clear hs hrt h hl1 hl2 hspec himpl
    go_enter Tryz.func18, Tryz.ntmps18
    go_wp2_with fail
    refine (HSZ _).mono ?_
    rintro e w1 ⟨rfl, b1⟩
    have B1 := below_first b1
    have k1 := one_cells b1 (by simp)
    have z1 := size_first b1
    clear b1
    go_wp2_with fail
    refine (HTA.out _ B1).mono ?_
    rintro e w2 ⟨x1, x2, rfl, s2, r2, b2⟩
    have B2 := below_next B1 b2
    have k2 := has_below k1 b2 z1
    have z2 := Nat.lt_of_lt_of_le z1 b2.size
    clear b2 k1
    go_wp2_with fail
    refine (HSP.out (some ⟨x1, 0, none⟩) ws.length (some ⟨x2, 0, none⟩) rs.length _ _ s2 r2).mono ?_
    rintro e w3 ⟨rfl, b3⟩
    have B3 := below_next B2 b3
    have k3 := has_below k2 b3 z2
    have z3 := Nat.lt_of_lt_of_le z2 b3.size
    clear b3 k2 s2 r2
    go_wp2_with fail
    refine (HTA.out _ B3).mono ?_
    rintro e w4 ⟨x3, x4, rfl, s4, r4, b4⟩
    have B4 := below_next B3 b4
    have k4 := has_below k3 b4 z3
    have z4 := Nat.lt_of_lt_of_le z3 b4.size
    clear b4 k3
    have A4 := s4.below ((Below.refl w4.heap.size w4).alloc (Nat.le_refl _) (.cells #[.slice (some ⟨x3, 0, none⟩) ws.length ws.length, .int .i64 semi, .int .i64 toh, .int .i64 top, .bool cyc, .int .i64 scan, .int .i64 old, .int .i64 copied, .int .i64 serial, .slice (some ⟨x4, 0, none⟩) rs.length rs.length] 30))
    have R4 := r4.below ((Below.refl w4.heap.size w4).alloc (Nat.le_refl _) (.cells #[.slice (some ⟨x3, 0, none⟩) ws.length ws.length, .int .i64 semi, .int .i64 toh, .int .i64 top, .bool cyc, .int .i64 scan, .int .i64 old, .int .i64 copied, .int .i64 serial, .slice (some ⟨x4, 0, none⟩) rs.length rs.length] 30)) (Nat.le_refl _)
    go_wp2_with fail
    refine (HIM.out (some ⟨x3, 0, none⟩) ws.length (some ⟨x4, 0, none⟩) rs.length _ _ A4 (Nat.le_refl _) R4).mono ?_
    rintro e w5 ⟨rfl, b5⟩
    have B5 := below_next (below_box B4) b5
    have k5 := has_below (has_below k4 ((Below.refl w4.heap.size w4).alloc (Nat.le_refl _) _) z4) b5 (by simp; omega)
    have p5 := one_cells b5 (by simp)
    have z5 := size_first b5
    have S5 := A4.below b5
    have R5 := R4.below b5 (by simp)
    clear A4 R4 s4 r4 k4 b5
    have F5 := sl_f S5
    have R5' := R5.here
    go_wp2_with fail
    have KP : ∀ V, Below w5.heap.size w5 V → (Below w5.heap.size w5 V ∧ (∀ i, V.cell? ⟨w.heap.size, i, none⟩ = (#[.slice aw ws.length cw, .int .i64 semi, .int .i64 toh, .int .i64 top, .bool cyc, .int .i64 scan, .int .i64 old, .int .i64 copied, .int .i64 serial, .slice ar rs.length cr] : Array Value)[i]?) ∧ (∀ i, V.cell? ⟨w4.heap.size, i, none⟩ = (#[.slice (some ⟨x3, 0, none⟩) ws.length ws.length, .int .i64 semi, .int .i64 toh, .int .i64 top, .bool cyc, .int .i64 scan, .int .i64 old, .int .i64 copied, .int .i64 serial, .slice (some ⟨x4, 0, none⟩) rs.length rs.length] : Array Value)[i]?)) := fun V hV => ⟨hV, has_below k5 hV (by omega), has_below p5 hV z5⟩
    have b5' := (Below.refl w5.heap.size w5).drew
    clear k5 p5 S5 R5 HSZ HSP HIM
    go_region_held3 (fun V => Below w5.heap.size w5 V ∧ (∀ i, V.cell? ⟨w.heap.size, i, none⟩ = (#[.slice aw ws.length cw, .int .i64 semi, .int .i64 toh, .int .i64 top, .bool cyc, .int .i64 scan, .int .i64 old, .int .i64 copied, .int .i64 serial, .slice ar rs.length cr] : Array Value)[i]?) ∧ (∀ i, V.cell? ⟨w4.heap.size, i, none⟩ = (#[.slice (some ⟨x3, 0, none⟩) ws.length ws.length, .int .i64 semi, .int .i64 toh, .int .i64 top, .bool cyc, .int .i64 scan, .int .i64 old, .int .i64 copied, .int .i64 serial, .slice (some ⟨x4, 0, none⟩) rs.length rs.length] : Array Value)[i]?)) (first | assumption | exact KP _ b5' | exact KP _ (by assumption)) (first | (go_at_call 22; refine (HTA.out _ (below_next B5 (And.left (by assumption)))).mono ?_; rintro e w6 ⟨x5, x6, rfl, s6, r6, bb⟩; have hB6 := below_next (w := w5) (And.left (by assumption)) bb; clear bb) | (go_at_call 24; refine (eqArena_same _ _ _ _ _ _ _ _ ws.length rs.length (wordAt ws) y _ _ _ _ _ _ _ _ _ (F5.below hB6 (Nat.le_refl _)) (sl_f s6) hn (R5'.below hB6 (Nat.le_refl _)) r6 hn2).mono ?_; rintro e w7 ⟨rfl, bb⟩; have hB7 := below_next (w := w5) hB6 bb; clear bb))
    all_goals
      go_wp2
      go_ret
      exact ⟨rfl, below_next B5 hB7⟩
  · have HSZ : ∀ W, _ := fun W => szArena_any aw ws.length cw semi toh top cyc scan old copied serial ar rs.length cr W hl1 hl2
    rw [if_neg h] at HSZ
    clear hs hrt h hspec himpl
    go_enter Tryz.func18, Tryz.ntmps18
    go_wp2_with (go_at_call 20; refine (HSZ _).mono ?_; rintro e w1 ⟨rfl, b1⟩)
    go_ret
    exact ⟨rfl, below_first b1⟩

end Go.Proofs.YtaapiedminakcaaGreat
