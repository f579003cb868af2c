/- The model's Objects: the places of the half in use. -/
import Derived.Test.YtmckcnmlhgpnhaaGreatProg
import Derived.Test.YtmckcnmlhgpnhaaGreatKFreeA
namespace Go.Proofs.YtmckcnmlhgpnhaaGreat
set_option maxRecDepth 20000
open Go.RowKit Go.Maps
set_option linter.unusedSimpArgs false
set_option linter.unusedVariables false

/-- Places, as cells. -/
def cellsI (L : List Nat) : List Value := L.map fun p : Nat => Value.int .i64 (p : Int)
theorem ownI_places {B : Nat} {w : World} {v : Value} {L : List Nat} (h : w.ownsRow B 3 1 v L.length (cellsI L)) : OwnF B w.heap.size 3 w v L.length L.length (fun i => .int .i64 ((L.getD i 0 : Nat) : Int)) := by
  obtain ⟨_, ⟨rfl, h0⟩ | ⟨g, cap, cur, rfl, hB, hg, hn, hm, hs, ht⟩⟩ := h
  · have : L = [] := List.eq_nil_of_length_eq_zero h0
    subst this
    exact ⟨none, 0, rfl, .inl rfl⟩
  · refine ⟨_, cap, rfl, .inr ⟨g, cur.size, fun i => cur.getD i (.int .i64 0), rfl, hB, ?_, by omega, ?_, fun i hi => ?_⟩⟩
    · exact (Array.getElem?_eq_some_iff.1 hg).1
    · exact ⟨cur, hg, rfl, fun i hi => by simp [hi]⟩
    · have h1 : (cur.toList.take (L.length * 1))[i]? = some (.int .i64 ((L.getD i 0 : Nat) : Int)) := by rw [ht]; simp [cellsI, hi]
      rw [List.getElem?_take_of_lt (by omega)] at h1
      have h2 : cur[i]? = some (.int .i64 ((L.getD i 0 : Nat) : Int)) := by simpa using h1
      simp [Array.getD_eq_getD_getElem?, h2]
theorem chain_length {nx : Nat → Option Nat} {p q : Nat} {L : List Nat} (h : Chain nx p q L) : L.length ≤ q - p := by
  refine Chain.ind (motive := fun p L => L.length ≤ q - p) (by simp) (fun h t ih => ?_) h
  have := t.le
  simp
  omega
set_option maxHeartbeats 2000000 in
theorem specObjects_yes (aw : Option Addr) (cw : Nat) (ws : List Int) (semi toh top : Int) (cyc : Bool) (scan old copied serial : Int) (ar : Option Addr) (cr : Nat) (rs : List (Int × Int)) (y : Nat → Int) (Tr : Nat) (w : World) (S T : Nat) (L : List Nat) (hs : Sl w (.slice aw ws.length cw) ws) (hn : ws.length ≤ 1048576) (hw : Words64 ws) (hrt : SlF Tr w (.slice ar rs.length cr) rs.length (2 * rs.length) (fun i => .int .i64 (y i))) (hn2 : rs.length ≤ 1048576) (hok : ArOk ws semi toh top cyc scan old copied serial y rs.length) (hS : toh * semi + 1 = S) (hT : top = T) (hTn : T ≤ ws.length) (hL : Chain (nx1 ws serial) S T L) :
    Calls Tryz.prog 80 #[.agg #[.slice aw ws.length cw, .int .i64 semi, .int .i64 toh, .int .i64 top, .bool cyc, .int .i64 scan, .int .i64 old, .int .i64 copied, .int .i64 serial, .slice ar rs.length cr]] w fun e w' => ∃ v, e = .returned v ∧ OwnF w.heap.size w'.heap.size 3 w' v L.length L.length (fun i => .int .i64 ((L.getD i 0 : Nat) : Int)) ∧ Below w.heap.size w w' := by
  obtain ⟨s0, s1, t0, t1, p0, p1, _⟩ := ar_bounds hok
  obtain ⟨i0, hi, hz0, hz1, hz2⟩ := info_parts info3
  have HS : Hid (Sl w (.slice aw ws.length cw) ws) := hs
  have HR : Hid (SlF w.heap.size w (.slice ar rs.length cr) rs.length (2 * rs.length) (fun i => .int .i64 (y i))) := hrt.here
  have HQ : Hid (ArOk ws semi toh top cyc scan old copied serial y rs.length) := hok
  have HSe : Hid (toh * semi + 1 = (S : Int)) := hS
  have HL : Hid (Chain (nx1 ws serial) S T L) := hL
  subst hT
  clear hs hrt hok hS hL
  go_enter Tryz.func80, Tryz.ntmps80
  go_wp2_with fail
  refine (specArenaOk_at _ _ _ _ _ _ _ _ _ _ _ _ _ _ y w.heap.size _ (HS.out.below (below_second (Below.refl _ _))) hn hw (HR.out.below (below_second (Below.refl _ _)) (Nat.le_refl _)) hn2).mono ?_
  rintro e w1 ⟨q, rfl, hq, b1⟩
  obtain rfl := hq.2 HQ.out
  have B1 := below_second b1
  have l1 := size_second b1
  have k1 : ∀ i, w1.cell? ⟨w.heap.size, i, none⟩ = (#[.slice aw ws.length cw, .int .i64 semi, .int .i64 toh, .int .i64 (T : Int), .bool cyc, .int .i64 scan, .int .i64 old, .int .i64 copied, .int .i64 serial, .slice ar rs.length cr] : Array Value)[i]? := fun i => by rw [b1.cell (p := ⟨w.heap.size, i, none⟩) (by simp <;> omega)]; simp [go_sem]
  have hg1 : w1.heap[w.heap.size + 1]? = some (.cells #[] 3) := (b1.block _ (by simp)).trans (alloc_at (by simp))
  have HG1 : Hid (w1.heap[w.heap.size + 1]? = some (.cells #[] 3)) := hg1
  clear b1 hg1 hq
  go_wp2_with fail
  refine (l2Start_is _ _ _ _ _ _ _ _ _ _ _ _ _ _ toh S _ t0 t1 s0 s1 HSe.out).mono ?_
  rintro e w2 ⟨rfl, b2⟩
  have B2 := below_next B1 b2
  have k2 := has_below k1 b2 (by omega)
  have l2 := Nat.lt_of_lt_of_le l1 b2.size
  have HG2 : Hid (w2.heap[w.heap.size + 1]? = some (.cells #[] 3)) := (b2.block _ (by omega)).trans HG1.out
  clear b2 k1 HG1 B1
  have hst : w2.ownsRow (w.heap.size + 1) 3 1 (.slice (some ⟨w.heap.size + 1, 0, none⟩) 0 0) 0 (cellsI []) := ⟨rfl, .inr ⟨w.heap.size + 1, 0, #[], rfl, Nat.le_refl _, HG2.out, Nat.le_refl _, by simp [maxLen], rfl, rfl⟩⟩
  have HST : Hid (w2.ownsRow (w.heap.size + 1) 3 1 (.slice (some ⟨w.heap.size + 1, 0, none⟩) 0 0) 0 (cellsI [])) := hst
  have HB2 : Hid (Below w.heap.size w w2) := B2
  have HL2 : Hid (w.heap.size + 1 < w2.heap.size) := l2
  clear hst HG2 B2 l2
  go_wp2_with fail
  go_loopw [3, 4] (fun v i wr => ∃ (p : Nat) (L1 L2 : List Nat), L = L1 ++ L2 ∧ i = .int .i64 (p : Int) ∧ Chain (nx1 ws serial) p T L2 ∧ wr.ownsRow (w.heap.size + 1) 3 1 v L1.length (cellsI L1) ∧ Below (w.heap.size + 1) w2 wr) (fun _ i _ => T - (intOf i).toNat)
  case atStart => exact ⟨S, [], L, rfl, rfl, HL.out, HST.out, Below.refl _ _⟩
  case round =>
    obtain ⟨p, L1, L2, hLL, rfl, hch, hown, hF⟩ := hrel
    have kr : ∀ i, wr.cell? ⟨w.heap.size, i, none⟩ = (#[.slice aw ws.length cw, .int .i64 semi, .int .i64 toh, .int .i64 (T : Int), .bool cyc, .int .i64 scan, .int .i64 old, .int .i64 copied, .int .i64 serial, .slice ar rs.length cr] : Array Value)[i]? := has_below k2 hF (by omega)
    have B3 : Below w.heap.size w wr := HB2.out.trans (hF.mono (Nat.le_succ _))
    have hLn : L.length ≤ ws.length := Nat.le_trans (chain_length HL.out) (by omega)
    cases L2 with
    | nil =>
      obtain rfl : T = p := hch
      have h1 : ¬ (T : Int) < (T : Int) := by omega
      have hLL' : L = L1 := by rw [hLL]; simp
      have HLL : Hid (L = L1) := hLL'
      clear hLL hLL'
      go_wp2
      go_ret
      exact ⟨_, rfl, by rw [HLL.out]; exact (ownI_places hown).mono (Nat.le_succ _) (Nat.le_refl _), B3⟩
    | cons x L3 =>
      obtain ⟨rfl, s, hs3, ht3⟩ := hch
      have hle := ht3.le
      have h1 : (p : Int) < (T : Int) := by omega
      have hpn : p < ws.length := by omega
      have hs4 := nx1_some hs3
      have hsb := rdS_bound (wordAt ws p)
      have hlen : L1.length + 1 ≤ L.length := by rw [hLL]; simp
      have hm1 : L1.length + 1 ≤ 1048576 := by omega
      have HLL : Hid (L = (L1 ++ [p]) ++ L3) := by show L = (L1 ++ [p]) ++ L3; rw [hLL]; simp
      have HCH : Hid (Chain (nx1 ws serial) (p + s + 1) T L3) := ht3
      have HSS : Hid ((rdS (wordAt ws p)).toNat = s) := hs4.2.2
      have HF : Hid (Below (w.heap.size + 1) w2 wr) := hF
      have HB3 : Hid (Below w.heap.size w wr) := B3
      have zr : w.heap.size < wr.heap.size := by have := hF.size; have := HL2.out; omega
      clear hLL hs3 ht3 hs4 hlen hle hF hLn B3
      go_wp2_with (at_builtin; refine wpList_append_own _ rfl _ _ 64 rfl (w.heap.size + 1) 3 i0 (.int .i64 0) 1 8 Tryz.underlying64 hi hz0 hz1 hz2 rfl (by decide) _ L1.length (cellsI L1) rfl (hown.alloc _) ⟨wr.heap.size, 0, none⟩ 1 1 [.int .i64 (p : Int)] rfl rfl (cell_one_new _ _ _) (ints_oneCell .i64 [(p : Int)]) (by unfold maxLen; omega) (by omega) (by simp; omega) ?_)
      intro v' w3 hown' hgrow _
      have F3 : Below (w.heap.size + 1) w2 w3 := (HF.out.alloc (by omega) _).grown hgrow (by simp; omega) (fun j hj => by have := (hown.lt j hj).1; omega)
      have O3 : w3.ownsRow (w.heap.size + 1) 3 1 v' (L1 ++ [p]).length (cellsI (L1 ++ [p])) := by simpa [cellsI] using hown'
      have k3 : ∀ i, w3.cell? ⟨w.heap.size, i, none⟩ = (#[.slice aw ws.length cw, .int .i64 semi, .int .i64 toh, .int .i64 (T : Int), .bool cyc, .int .i64 scan, .int .i64 old, .int .i64 copied, .int .i64 serial, .slice ar rs.length cr] : Array Value)[i]? := has_below k2 F3 (by omega)
      have S3 : Sl w3 (.slice aw ws.length cw) ws := HS.out.below (HB2.out.trans (F3.mono (Nat.le_succ _)))
      have HF3 : Hid (Below (w.heap.size + 1) w2 w3) := F3
      have HO3 : Hid (w3.ownsRow (w.heap.size + 1) 3 1 v' (L1 ++ [p]).length (cellsI (L1 ++ [p]))) := O3
      clear hown hown' hgrow F3 O3 kr
      go_wp2_with fail
      refine (l2Look_any _ _ _ _ _ _ _ _ _ _ _ _ _ _ p _ S3 hn hw hpn).mono ?_
      rintro e w4 ⟨rfl, b4⟩
      have hsz : w.heap.size + 1 ≤ w3.heap.size := by have := HF3.out.size; have := HL2.out; omega
      have HO4 : Hid (w4.ownsRow (w.heap.size + 1) 3 1 v' (L1 ++ [p]).length (cellsI (L1 ++ [p]))) := World.ownsRow.kept HO3.out (row := none) ⟨b4.os, b4.tape, b4.output, b4.size, fun k hk _ => b4.block k hk⟩ (by cases v'.ownBlock <;> simp)
      have HF4 : Hid (Below (w.heap.size + 1) w2 w4) := HF3.out.trans (b4.mono hsz)
      clear b4 HO3 HF3 S3 k3
      have fz := field_size
      go_wp2
      go_roundw
      case rel => exact ⟨p + s + 1, L1 ++ [p], L3, HLL.out, by have := HSS.out; go_num, HCH.out, HO4.out, HF4.out⟩
      case measure => have := HSS.out; have := HCH.out.le; simp [intOf]; omega
end Go.Proofs.YtmckcnmlhgpnhaaGreat
