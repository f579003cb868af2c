/- The program's survey of an arena: what it hands out at a right one, and at one that is not. -/
import Derived.Test.YtaapiedminakcaaGreatProg
import Derived.Test.YtaapiedminakcaaGreatKFreeA
import Derived.Test.YtaapiedminakcaaGreatKHeadS
namespace Go.Proofs.YtaapiedminakcaaGreat
set_option maxRecDepth 20000
open Go.RowKit
set_option linter.unusedSimpArgs false
set_option linter.unusedVariables false

theorem surveyOf_bad (aw : Option Addr) (cw : Nat) (ws : List Int) (semi toh top : Int) (cyc : Bool) (scan old copied serial : Int) (ar : Option Addr) (cr : Nat) (rs : List (Int × Int)) (y : Nat → Int) (Tr : Nat) (w : World) (hs : Sl w (.slice aw ws.length cw) ws) (hcw : ws.length ≤ cw) (hn : ws.length ≤ 1048576) (hw : Words64 ws) (hrt : SlF Tr w (.slice ar rs.length cr) rs.length (2 * rs.length) (fun i => .int .i64 (y i))) (hn2 : rs.length ≤ 1048576) (hok : ¬ ArOk ws semi toh top cyc scan old copied serial y rs.length) :
    Calls Tryz.prog 76 #[.agg #[.slice aw ws.length cw, .int .i64 semi, .int .i64 toh, .int .i64 top, .bool cyc, .int .i64 scan, .int .i64 old, .int .i64 copied, .int .i64 serial, .slice ar rs.length cr]] w fun e w' => ∃ pt, e = .returned (.tuple #[.pointer pt, .bool false]) ∧ Below w.heap.size w w' := by
  cases hm : mOk ws.length semi toh top serial rs.length with
  | false =>
    refine (surveyOf_no aw cw ws semi toh top cyc scan old copied serial ar cr rs w hn hn2 hm).mono ?_
    rintro e w1 ⟨rfl, b1⟩
    exact ⟨_, rfl, b1⟩
  | true =>
    have hm' := hm
    simp only [mOk, num1, num2, inB, Bool.and_eq_true, decide_eq_true_eq] at hm'
    obtain ⟨⟨s0, s1, hl, t0, t1, _, _, hrl⟩, h1, h2⟩ := hm'
    obtain ⟨g1, g2, g3, g4, g5⟩ := num_halves s0 s1 hl t0 t1 h1 h2
    obtain ⟨b, off, rfl, hb, hc⟩ := sl_open hs (by omega)
    have hgood := surv_good (ws := ws) (semi := semi) (toh := toh) (top := top) (cyc := cyc) (scan := scan) (old := old) (copied := copied) (serial := serial) (y := y) (rl := rs.length) (S := (toh * semi + 1).toNat) (T := top.toNat) (F := ((1 - toh) * semi + 1).toNat) hw hm (by omega) (by omega) (by omega)
    refine (surveyOf_at b off cw ws semi toh top cyc scan old copied serial ar cr rs y Tr (toh * semi + 1).toNat top.toNat ((1 - toh) * semi + 1).toNat w hb hc hw hcw hrt hm hrl s0 s1 hl t0 t1 (by omega) (by omega) (by omega) (by omega) h2).mono ?_
    rintro e w1 ⟨q, sv, rfl, b1, hq1, hq2⟩
    cases q with
    | false => exact ⟨_, rfl, b1⟩
    | true =>
      obtain ⟨L, O, _, _, _, _, _, _, a, b, _⟩ := hq1 rfl
      exact absurd (hgood.1 ⟨L, O, a, b⟩) hok
/-- A right arena's numbers, as a tiling's. -/
theorem ar_laid {ws : List Int} {semi toh top : Int} {cyc : Bool} {scan old copied serial : Int} {y : Nat → Int} {rl S T F : Nat} {L O : List Nat} (hok : ArOk ws semi toh top cyc scan old copied serial y rl) (hS : toh * semi + 1 = S) (hT : top = T) (hF : (1 - toh) * semi + 1 = F) (ht : Tiling ws serial S T cyc F old copied scan L O) : Laid ws serial S T cyc F old copied scan L O := by
  obtain ⟨s0, s1, hl, t0, t1, hrl, h1, h2, hold⟩ := num_facts hok.1
  obtain ⟨g1, g2, g3, g4, g5⟩ := num_halves s0 s1 hl t0 t1 h1 h2
  refine ⟨ht, fun hc => ?_, by omega, by omega, by omega, fun hc => ?_⟩
  · obtain ⟨a, b⟩ := hold hc
    have := g5 old a b
    omega
  · obtain ⟨a, b⟩ := hold hc
    exact (g5 old a b).1
/-- A right arena is tiled, in one way. -/
theorem ar_chain {ws : List Int} {semi toh top : Int} {cyc : Bool} {scan old copied serial : Int} {y : Nat → Int} {rl : Nat} (hok : ArOk ws semi toh top cyc scan old copied serial y rl) :
    ∃ (S T F : Nat) (L O : List Nat), toh * semi + 1 = S ∧ top = T ∧ (1 - toh) * semi + 1 = F ∧ T ≤ ws.length ∧ S ≤ T ∧ Laid ws serial S T cyc F old copied scan L O := by
  obtain ⟨s0, s1, hl, t0, t1, hrl, h1, h2, hold⟩ := num_facts hok.1
  obtain ⟨g1, g2, g3, g4, g5⟩ := num_halves s0 s1 hl t0 t1 h1 h2
  obtain ⟨L, O, ht, _⟩ := hok.2
  exact ⟨_, _, _, L, O, by omega, by omega, by omega, by omega, by omega, ar_laid hok (by omega) (by omega) (by omega) ht⟩
theorem surveyOf_good (aw : Option Addr) (cw : Nat) (ws : List Int) (semi toh top : Int) (cyc : Bool) (scan old copied serial : Int) (ar : Option Addr) (cr : Nat) (rs : List (Int × Int)) (y : Nat → Int) (Tr : Nat) (w : World) (S T F : Nat) (L : List Nat) (hs : Sl w (.slice aw ws.length cw) ws) (hcw : ws.length ≤ cw) (hn : ws.length ≤ 1048576) (hw : Words64 ws) (hrt : SlF Tr w (.slice ar rs.length cr) rs.length (2 * rs.length) (fun i => .int .i64 (y i))) (hn2 : rs.length ≤ 1048576) (hok : ArOk ws semi toh top cyc scan old copied serial y rs.length) (hS : toh * semi + 1 = S) (hT : top = T) (hF : (1 - toh) * semi + 1 = F) (hL : Chain (nx1 ws serial) S T L) :
    Calls Tryz.prog 76 #[.agg #[.slice aw ws.length cw, .int .i64 semi, .int .i64 toh, .int .i64 top, .bool cyc, .int .i64 scan, .int .i64 old, .int .i64 copied, .int .i64 serial, .slice ar rs.length cr]] w fun e w' => ∃ (sv b off bl cl bs bc Bp : Nat) (vp : Value) (O : List Nat), aw = some ⟨b, off, none⟩ ∧ e = .returned (.tuple #[.pointer (some ⟨sv, 0, none⟩), .bool true]) ∧ Below w.heap.size w w' ∧ Laid ws serial S T cyc F old copied scan L O ∧
      (b < w.heap.size ∧ ∀ i, i < ws.length → w.cell? ⟨b, off + i, none⟩ = some (.int .u64 (wordAt ws i))) ∧ Surv w.heap.size Bp w' sv bl bs bc ws.length #[.slice (some ⟨b, off, none⟩) ws.length cw, .int .i64 semi, .int .i64 toh, .int .i64 top, .bool cyc, .int .i64 scan, .int .i64 old, .int .i64 copied, .int .i64 serial, .slice ar rs.length cr, .slice (some ⟨bl, 0, none⟩) ws.length cl, vp, .map (some bs), .map (some bc)] vp (leadO ws L O) (L ++ hdsO ws O) (L.length + O.length) O.length (serH ws (L ++ hdsO ws O)) (copH ws O) := by
  obtain ⟨s0, s1, hl, t0, t1, hrl, h1, h2, hold⟩ := num_facts hok.1
  obtain ⟨g1, g2, g3, g4, g5⟩ := num_halves s0 s1 hl t0 t1 h1 h2
  obtain ⟨b, off, rfl, hb, hc⟩ := sl_open hs (by omega)
  have hm : mOk ws.length semi toh top serial rs.length = true := by
    have := hok.1
    unfold numOk at this
    rw [Bool.and_eq_true] at this
    exact this.1
  have hgood := surv_good (ws := ws) (semi := semi) (toh := toh) (top := top) (cyc := cyc) (scan := scan) (old := old) (copied := copied) (serial := serial) (y := y) (rl := rs.length) (S := S) (T := T) (F := F) hw hm hS hT hF
  refine (surveyOf_at b off cw ws semi toh top cyc scan old copied serial ar cr rs y Tr S T F w hb hc hw hcw hrt hm hrl s0 s1 hl t0 t1 hS hT hF (by omega) h2).mono ?_
  rintro e w1 ⟨q, sv, rfl, b1, hq1, hq2⟩
  cases q with
  | false => exact absurd (hgood.2 hok) (hq2 rfl)
  | true =>
    obtain ⟨L', O, bl, cl, bs, bc, Bp, vp, a, _, hsv⟩ := hq1 rfl
    obtain rfl := Chain.unique hL a.1.use
    exact ⟨sv, b, off, bl, cl, bs, bc, Bp, vp, O, rfl, rfl, b1, ar_laid hok hS hT hF a.1, ⟨hb, hc⟩, hsv⟩
/-- Where a place of the half in use leads, in a survey: to itself just where an object stands. -/
theorem laid_lead {ws : List Int} {serial : Int} {S T : Nat} {cyc : Bool} {F : Nat} {old copied scan : Int} {L O : List Nat} (h : Laid ws serial S T cyc F old copied scan L O) (x : Int) :
    (decide ((S : Int) ≤ x ∧ x < (T : Int)) && (leadO ws L O x.toNat == x)) = decide (∃ p ∈ L, (p : Int) = x) := by
  have hS := h.S1
  by_cases hx : (S : Int) ≤ x ∧ x < (T : Int)
  · rw [decide_eq_true hx, Bool.true_and]
    have hO : x.toNat ∉ O := fun g => (h.inO g).2.1 (by omega)
    unfold leadO leadU
    rw [if_neg hO]
    by_cases hL : x.toNat ∈ L
    · rw [if_pos hL, decide_eq_true ⟨x.toNat, hL, by omega⟩]
      simp
      omega
    · rw [if_neg hL, decide_eq_false (fun ⟨p, hp, e⟩ => hL (by rw [← e]; simpa using hp))]
      simp
      omega
  · rw [decide_eq_false hx, Bool.false_and, decide_eq_false]
    rintro ⟨p, hp, e⟩
    have := h.inL hp
    omega
end Go.Proofs.YtaapiedminakcaaGreat

/- The program's HeadAt. -/
namespace Go.Proofs.YtaapiedminakcaaGreat
set_option maxRecDepth 20000
open Go.RowKit
set_option linter.unusedSimpArgs false
set_option linter.unusedVariables false

set_option maxHeartbeats 2000000 in
theorem implHeadAt_bad (aw : Option Addr) (cw : Nat) (ws : List Int) (semi toh top : Int) (cyc : Bool) (scan old copied serial : Int) (ar : Option Addr) (cr : Nat) (rs : List (Int × Int)) (x : Int) (y : Nat → Int) (Tr : Nat) (w : World) (hs : Sl w (.slice aw ws.length cw) ws) (hcw : ws.length ≤ cw) (hn : ws.length ≤ 1048576) (hw : Words64 ws) (hrt : SlF Tr w (.slice ar rs.length cr) rs.length (2 * rs.length) (fun i => .int .i64 (y i))) (hn2 : rs.length ≤ 1048576) (hok : ¬ ArOk ws semi toh top cyc scan old copied serial y rs.length) :
    Calls Tryz.prog 32 #[.agg #[.slice aw ws.length cw, .int .i64 semi, .int .i64 toh, .int .i64 top, .bool cyc, .int .i64 scan, .int .i64 old, .int .i64 copied, .int .i64 serial, .slice ar rs.length cr], .int .i64 x] w fun e w' => e = .returned (.tuple #[.agg #[.int .i64 0, .int .i64 0, .int .i64 0], .bool false]) ∧ Below w.heap.size w w' := by
  have HS : Hid (Sl w (.slice aw ws.length cw) ws) := hs
  have HR : Hid (SlF w.heap.size w (.slice ar rs.length cr) rs.length (2 * rs.length) (fun i => .int .i64 (y i))) := hrt.here
  have HQ : Hid (¬ ArOk ws semi toh top cyc scan old copied serial y rs.length) := hok
  clear hs hrt hok
  go_enter Tryz.func32, Tryz.ntmps32
  go_wp2_with fail
  refine (surveyOf_bad _ _ _ _ _ _ _ _ _ _ _ _ _ _ y w.heap.size _ (HS.out.below (below_second (Below.refl _ _))) hcw hn hw (HR.out.below (below_second (Below.refl _ _)) (Nat.le_refl _)) hn2 HQ.out).mono ?_
  rintro e w1 ⟨pt, rfl, b1⟩
  have r1 : ∀ i, w1.cell? ⟨w.heap.size + 1, i, none⟩ = (#[.int .i64 0, .int .i64 0, .int .i64 0] : Array Value)[i]? := fun i => by rw [b1.cell (p := ⟨w.heap.size + 1, i, none⟩) (by simp <;> omega)]; simp [go_sem]
  have f1 : ∀ i, w1.frozen? ⟨w.heap.size + 1, i, none⟩ = false := fun i => by rw [(bcell b1).2 _ _ (by simp <;> omega)]; simp [go_sem]
  have B1 := below_second b1
  have q0 := r1 0
  have q1 := r1 1
  have q2 := r1 2
  simp at q0 q1 q2
  have p0 : (w1.cell? ⟨w.heap.size + 1, 0, none⟩).isSome = true := by rw [q0]; rfl
  have p1 : (w1.cell? ⟨w.heap.size + 1, 1, none⟩).isSome = true := by rw [q1]; rfl
  have p2 : (w1.cell? ⟨w.heap.size + 1, 2, none⟩).isSome = true := by rw [q2]; rfl
  clear b1 r1
  go_wp2
  refine bodyPost_ret (v := .tuple #[.agg #[.int .i64 0, .int .i64 0, .int .i64 0], .bool false]) (by simp [results, Tryz.results32, go_sem, p0, p1, p2]) rfl ⟨rfl, ?_⟩
  exact ((B1.setCell (p := ⟨w.heap.size + 1, 0, none⟩) (Nat.le_succ _) _).setCell (p := ⟨w.heap.size + 1, 1, none⟩) (Nat.le_succ _) _).setCell (p := ⟨w.heap.size + 1, 2, none⟩) (Nat.le_succ _) _
set_option maxHeartbeats 2000000 in
theorem implHeadAt_good (aw : Option Addr) (cw : Nat) (ws : List Int) (semi toh top : Int) (cyc : Bool) (scan old copied serial : Int) (ar : Option Addr) (cr : Nat) (rs : List (Int × Int)) (x : Int) (y : Nat → Int) (Tr : Nat) (w : World) (S T F : Nat) (L : List Nat) (hs : Sl w (.slice aw ws.length cw) ws) (hcw : ws.length ≤ cw) (hn : ws.length ≤ 1048576) (hw : Words64 ws) (hrt : SlF Tr w (.slice ar rs.length cr) rs.length (2 * rs.length) (fun i => .int .i64 (y i))) (hn2 : rs.length ≤ 1048576) (hok : ArOk ws semi toh top cyc scan old copied serial y rs.length) (hS : toh * semi + 1 = S) (hT : top = T) (hF : (1 - toh) * semi + 1 = F) (hTn : T ≤ ws.length) (hL : Chain (nx1 ws serial) S T L) (K Z N : Int) (q : Bool)
    (hans : (q = true ∧ (∃ p ∈ L, (p : Int) = x) ∧ K = rdK (wordAt ws x.toNat) ∧ Z = rdS (wordAt ws x.toNat) ∧ N = rdN (wordAt ws x.toNat)) ∨ (q = false ∧ (¬ ∃ p ∈ L, (p : Int) = x) ∧ K = 0 ∧ Z = 0 ∧ N = 0)) :
    Calls Tryz.prog 32 #[.agg #[.slice aw ws.length cw, .int .i64 semi, .int .i64 toh, .int .i64 top, .bool cyc, .int .i64 scan, .int .i64 old, .int .i64 copied, .int .i64 serial, .slice ar rs.length cr], .int .i64 x] w fun e w' => e = .returned (.tuple #[.agg #[.int .i64 K, .int .i64 Z, .int .i64 N], .bool q]) ∧ Below w.heap.size w w' := by
  subst hT
  obtain ⟨s0, s1, t0, t1, _, _, _⟩ := ar_bounds hok
  have HS : Hid (Sl w (.slice aw ws.length cw) ws) := hs
  have HR : Hid (SlF w.heap.size w (.slice ar rs.length cr) rs.length (2 * rs.length) (fun i => .int .i64 (y i))) := hrt.here
  have HQ : Hid (ArOk ws semi toh (T : Int) cyc scan old copied serial y rs.length) := hok
  have HSe : Hid (toh * semi + 1 = (S : Int)) := hS
  have HFe : Hid ((1 - toh) * semi + 1 = (F : Int)) := hF
  have HL : Hid (Chain (nx1 ws serial) S T L) := hL
  have HA : Hid ((q = true ∧ (∃ p ∈ L, (p : Int) = x) ∧ K = rdK (wordAt ws x.toNat) ∧ Z = rdS (wordAt ws x.toNat) ∧ N = rdN (wordAt ws x.toNat)) ∨ (q = false ∧ (¬ ∃ p ∈ L, (p : Int) = x) ∧ K = 0 ∧ Z = 0 ∧ N = 0)) := hans
  clear hs hrt hok hS hF hL hans
  go_enter Tryz.func32, Tryz.ntmps32
  go_wp2_with fail
  refine (surveyOf_good _ _ _ _ _ _ _ _ _ _ _ _ _ _ y w.heap.size _ S T F L (HS.out.below (below_second (Below.refl _ _))) hcw hn hw (HR.out.below (below_second (Below.refl _ _)) (Nat.le_refl _)) hn2 HQ.out HSe.out rfl HFe.out HL.out).mono ?_
  rintro e w1 ⟨sv, b, off, bl, cl, bs, bc, Bp, vp, O, rfl, rfl, b1, hlaid, ⟨hb0, hc0⟩, hsv⟩
  have r1 : ∀ i, w1.cell? ⟨w.heap.size + 1, i, none⟩ = (#[.int .i64 0, .int .i64 0, .int .i64 0] : Array Value)[i]? := fun i => by rw [b1.cell (p := ⟨w.heap.size + 1, i, none⟩) (by simp <;> omega)]; simp [go_sem]
  have f1 : ∀ i, w1.frozen? ⟨w.heap.size + 1, i, none⟩ = false := fun i => by rw [(bcell b1).2 _ _ (by simp <;> omega)]; simp [go_sem]
  have B1 := below_second b1
  have l1 := size_second b1
  have hb1 : b < w1.heap.size := Nat.lt_of_lt_of_le hb0 b1.size
  have hc1 : ∀ i, i < ws.length → w1.cell? ⟨b, off + i, none⟩ = some (.int .u64 (wordAt ws i)) := fun i hi => by rw [b1.cell (p := ⟨b, off + i, none⟩) hb0]; exact hc0 i hi
  have KS := row_cells hsv.head
  have lsv := hsv.head.lt
  have lbl := hsv.row.lt
  have hl1 : ∀ i, i < ws.length → w1.cell? ⟨bl, i, none⟩ = some (.int .i64 (leadO ws L O i)) := fun i hi => hsv.row.cell hi
  have hdec := laid_lead hlaid x
  have HDEC : Hid ((decide ((S : Int) ≤ x ∧ x < (T : Int)) && (leadO ws L O x.toNat == x)) = decide (∃ p ∈ L, (p : Int) = x)) := hdec
  have HSX : Hid (Sl w1 (.slice (some ⟨b, off, none⟩) ws.length cw) ws) := HS.out.below B1
  have HC1 : Hid (∀ i, i < ws.length → w1.cell? ⟨b, off + i, none⟩ = some (.int .u64 (wordAt ws i))) := hc1
  have HL1 : Hid (∀ i, i < ws.length → w1.cell? ⟨bl, i, none⟩ = some (.int .i64 (leadO ws L O i))) := hl1
  have hTw : (T : Int) ≤ (ws.length : Int) := by omega
  have HLD : Hid (∀ p ∈ L, p < T) := fun p hp => (hlaid.inL hp).2.1
  clear hc0 hb0 b1 hlaid hdec hc1 hl1 hsv
  go_wp2_with fail
  refine (standsInUse_at b off cw ws semi toh (T : Int) cyc scan old copied serial ar cr rs sv bl cl bs bc vp (leadO ws L O) x S _ lsv KS lbl HL1.out hb1 HC1.out hn hw t0 t1 s0 s1 HSe.out hTw).mono ?_
  rintro e w2 ⟨rfl, b2⟩
  have B2 := below_next B1 b2
  have r2 := has_below r1 b2 l1
  have f2 : ∀ i, w2.frozen? ⟨w.heap.size + 1, i, none⟩ = false := fun i => by rw [(bcell b2).2 _ _ l1]; exact f1 i
  have KS2 := has_below KS b2 lsv
  have S2 := HSX.out.below b2
  have l2 := Nat.lt_of_lt_of_le l1 b2.size
  rw [HDEC.out]
  have HS2 : Hid (Sl w2 (.slice (some ⟨b, off, none⟩) ws.length cw) ws) := S2
  clear b2 r1 f1 KS HSX HC1 HL1 S2 hb1 lsv lbl B1 l1
  rcases HA.out with ⟨rfl, hp, hK, hZ, hN⟩ | ⟨rfl, hp, rfl, rfl, rfl⟩
  · rw [decide_eq_true hp]
    obtain ⟨p, hp, rfl⟩ := hp
    rw [Int.toNat_natCast] at hK hZ hN
    subst hK hZ hN
    have hpn : p < ws.length := Nat.lt_of_lt_of_le (HLD.out p hp) hTn
    clear HA HDEC HLD hp HL
    go_wp2_with fail
    refine (headAt_at _ _ _ _ _ _ _ _ _ _ _ _ _ _ p p _ rfl HS2.out hn hw hpn).mono ?_
    rintro e w3 ⟨rfl, b3⟩
    have B3 := below_next B2 b3
    have r3 := has_below r2 b3 l2
    have f3 : ∀ i, w3.frozen? ⟨w.heap.size + 1, i, none⟩ = false := fun i => by rw [(bcell b3).2 _ _ l2]; exact f2 i
    have q0 := r3 0
    have q1 := r3 1
    have q2 := r3 2
    simp at q0 q1 q2
    have p0 : (w3.cell? ⟨w.heap.size + 1, 0, none⟩).isSome = true := by rw [q0]; rfl
    have p1 : (w3.cell? ⟨w.heap.size + 1, 1, none⟩).isSome = true := by rw [q1]; rfl
    have p2 : (w3.cell? ⟨w.heap.size + 1, 2, none⟩).isSome = true := by rw [q2]; rfl
    clear b3 r2 f2 KS2 r3
    go_wp2
    refine bodyPost_ret (v := .tuple #[.agg #[.int .i64 (rdK (wordAt ws p)), .int .i64 (rdS (wordAt ws p)), .int .i64 (rdN (wordAt ws p))], .bool true]) (by simp [results, Tryz.results32, go_sem, p0, p1, p2]) rfl ⟨rfl, ?_⟩
    exact ((B3.setCell (p := ⟨w.heap.size + 1, 0, none⟩) (Nat.le_succ _) _).setCell (p := ⟨w.heap.size + 1, 1, none⟩) (Nat.le_succ _) _).setCell (p := ⟨w.heap.size + 1, 2, none⟩) (Nat.le_succ _) _
  · rw [decide_eq_false hp]
    clear HA HDEC HLD hp HL
    have q0 := r2 0
    have q1 := r2 1
    have q2 := r2 2
    simp at q0 q1 q2
    have p0 : (w2.cell? ⟨w.heap.size + 1, 0, none⟩).isSome = true := by rw [q0]; rfl
    have p1 : (w2.cell? ⟨w.heap.size + 1, 1, none⟩).isSome = true := by rw [q1]; rfl
    have p2 : (w2.cell? ⟨w.heap.size + 1, 2, none⟩).isSome = true := by rw [q2]; rfl
    clear r2 KS2
    go_wp2
    refine bodyPost_ret (v := .tuple #[.agg #[.int .i64 0, .int .i64 0, .int .i64 0], .bool false]) (by simp [results, Tryz.results32, go_sem, p0, p1, p2]) rfl ⟨rfl, ?_⟩
    exact ((B2.setCell (p := ⟨w.heap.size + 1, 0, none⟩) (Nat.le_succ _) _).setCell (p := ⟨w.heap.size + 1, 1, none⟩) (Nat.le_succ _) _).setCell (p := ⟨w.heap.size + 1, 2, none⟩) (Nat.le_succ _) _
end Go.Proofs.YtaapiedminakcaaGreat

/- The law FnExactHeadAt, walked. -/
namespace Go.Proofs.YtaapiedminakcaaGreat
set_option maxRecDepth 20000
open Go.RowKit
set_option linter.unusedSimpArgs false
set_option linter.unusedVariables false

theorem eqHead_twin (k s n : Int) (w : World) :
    Calls Tryz.prog 33 #[.agg #[.int .i64 k, .int .i64 s, .int .i64 n], .agg #[.int .i64 k, .int .i64 s, .int .i64 n]] w fun e w' => e = .returned (.bool true) ∧ Below w.heap.size w w' := by
  go_enter Tryz.func33, Tryz.ntmps33
  go_wp2
  go_ret
  exact ⟨rfl, ((Below.refl _ _).alloc (Nat.le_refl _) _).alloc (by simp) _⟩
set_option maxHeartbeats 2000000 in
theorem fnExactHeadAt_by (aw : Option Addr) (cw : Nat) (ws : List Int) (semi toh top : Int) (cyc : Bool) (scan old copied serial : Int) (ar : Option Addr) (cr : Nat) (rs : List (Int × Int)) (x : Int) (y : Nat → Int) (Tr : Nat) (w : World) (K Z N : Int) (q : Bool) (hs : Sl w (.slice aw ws.length cw) ws) (hrt : SlF Tr w (.slice ar rs.length cr) rs.length (2 * rs.length) (fun i => .int .i64 (y i))) (hl1 : ws.length ≤ 9223372036854775807) (hl2 : rs.length ≤ 9223372036854775807)
    (hspec : ws.length ≤ 1048576 → rs.length ≤ 1048576 → ∀ (aw : Option Addr) (cw : Nat) (ar : Option Addr) (cr : Nat) (W : World) (T : Nat), Sl W (.slice aw ws.length cw) ws → SlF T W (.slice ar rs.length cr) rs.length (2 * rs.length) (fun i => .int .i64 (y i)) → Calls Tryz.prog 31 #[.agg #[.slice aw ws.length cw, .int .i64 semi, .int .i64 toh, .int .i64 top, .bool cyc, .int .i64 scan, .int .i64 old, .int .i64 copied, .int .i64 serial, .slice ar rs.length cr], .int .i64 x] W fun e w' => e = .returned (.tuple #[.agg #[.int .i64 K, .int .i64 Z, .int .i64 N], .bool q]) ∧ Below W.heap.size W w')
    (himpl : ws.length ≤ 1048576 → rs.length ≤ 1048576 → ∀ (aw : Option Addr) (cw : Nat) (ar : Option Addr) (cr : Nat) (W : World) (T : Nat), Sl W (.slice aw ws.length cw) ws → ws.length ≤ cw → SlF T W (.slice ar rs.length cr) rs.length (2 * rs.length) (fun i => .int .i64 (y i)) → Calls Tryz.prog 32 #[.agg #[.slice aw ws.length cw, .int .i64 semi, .int .i64 toh, .int .i64 top, .bool cyc, .int .i64 scan, .int .i64 old, .int .i64 copied, .int .i64 serial, .slice ar rs.length cr], .int .i64 x] W fun e w' => e = .returned (.tuple #[.agg #[.int .i64 K, .int .i64 Z, .int .i64 N], .bool q]) ∧ Below W.heap.size W w') :
    Calls Tryz.prog 5 #[.agg #[.slice aw ws.length cw, .int .i64 semi, .int .i64 toh, .int .i64 top, .bool cyc, .int .i64 scan, .int .i64 old, .int .i64 copied, .int .i64 serial, .slice ar rs.length cr], .int .i64 x] w fun e w' => e = .returned (.bool true) ∧ Below w.heap.size w w' := by
  by_cases h : (ws.length : Int) + rs.length ≤ 1048576
  · have hn : ws.length ≤ 1048576 := by omega
    have hn2 : rs.length ≤ 1048576 := by omega
    have h0 : ¬ (1048576 - (ws.length : Int) - rs.length) < 0 := by omega
    have HSZ : ∀ W, _ := fun W => szArena_any aw ws.length cw semi toh top cyc scan old copied serial ar rs.length cr W hl1 hl2
    rw [if_pos h] at HSZ
    have HTA : Hid (∀ W, Below w.heap.size w W → _) := fun W (hW : Below w.heap.size w W) => toArena_at aw cw ws semi toh top cyc scan old copied serial ar cr rs y w.heap.size W (hs.below hW) hn (hrt.here.below hW (Nat.le_refl _)) hn2
    have HSP : Hid _ := hspec hn hn2
    have HIM : Hid _ := himpl hn hn2
    clear hs hrt h hl1 hl2 hspec himpl
    go_enter Tryz.func5, Tryz.ntmps5
    go_wp2_with fail
    refine (HSZ _).mono ?_
    rintro e w1 ⟨rfl, b1⟩
    have B1 := below_first b1
    have k1 := one_cells b1 (by simp)
    have z1 := size_first b1
    clear b1
    go_wp2_with fail
    refine (HTA.out _ B1).mono ?_
    rintro e w2 ⟨x1, x2, rfl, s2, r2, b2⟩
    have B2 := below_next B1 b2
    have k2 := has_below k1 b2 z1
    have z2 := Nat.lt_of_lt_of_le z1 b2.size
    clear b2 k1
    go_wp2_with fail
    refine (HSP.out (some ⟨x1, 0, none⟩) ws.length (some ⟨x2, 0, none⟩) rs.length _ _ s2 r2).mono ?_
    rintro e w3 ⟨rfl, b3⟩
    have B3 := below_next B2 b3
    have k3 := has_below k2 b3 z2
    have z3 := Nat.lt_of_lt_of_le z2 b3.size
    clear b3 k2 s2 r2
    have B3' := below_box (o := .cells #[.int .i64 K, .int .i64 Z, .int .i64 N] 40) B3
    go_wp2_with fail
    refine (HTA.out _ B3').mono ?_
    rintro e w4 ⟨x3, x4, rfl, s4, r4, b4⟩
    have B4 := below_next B3' b4
    have k4 := has_below (has_below k3 ((Below.refl w3.heap.size w3).alloc (Nat.le_refl _) _) z3) b4 (by simp; omega)
    have h4 := one_cells b4 (by simp)
    have z34 : w3.heap.size < w4.heap.size := size_first b4
    have z4 : w.heap.size < w4.heap.size := by omega
    clear b4 k3 B3'
    have A4 := s4.below ((Below.refl w4.heap.size w4).alloc (Nat.le_refl _) (.cells #[.slice (some ⟨x3, 0, none⟩) ws.length ws.length, .int .i64 semi, .int .i64 toh, .int .i64 top, .bool cyc, .int .i64 scan, .int .i64 old, .int .i64 copied, .int .i64 serial, .slice (some ⟨x4, 0, none⟩) rs.length rs.length] 30))
    have R4 := r4.below ((Below.refl w4.heap.size w4).alloc (Nat.le_refl _) (.cells #[.slice (some ⟨x3, 0, none⟩) ws.length ws.length, .int .i64 semi, .int .i64 toh, .int .i64 top, .bool cyc, .int .i64 scan, .int .i64 old, .int .i64 copied, .int .i64 serial, .slice (some ⟨x4, 0, none⟩) rs.length rs.length] 30)) (Nat.le_refl _)
    go_wp2_with fail
    refine (HIM.out (some ⟨x3, 0, none⟩) ws.length (some ⟨x4, 0, none⟩) rs.length _ _ A4 (Nat.le_refl _) R4).mono ?_
    rintro e w5 ⟨rfl, b5⟩
    have B5 := below_next (below_box B4) b5
    have k5 := has_below (has_below k4 ((Below.refl w4.heap.size w4).alloc (Nat.le_refl _) _) z4) b5 (by simp; omega)
    have p5 := one_cells b5 (by simp)
    have h5 := has_below (has_below h4 ((Below.refl w4.heap.size w4).alloc (Nat.le_refl _) _) z34) b5 (by simp; omega)
    have z5 : w4.heap.size < w5.heap.size := size_first b5
    have z35 : w3.heap.size < w5.heap.size := by omega
    have z05 : w.heap.size < w5.heap.size := by omega
    have S5 := A4.below b5
    have R5 := R4.below b5 (by simp)
    clear A4 R4 s4 r4 k4 b5 h4
    go_wp2_with fail
    refine (eqHead_twin _ _ _ _).mono ?_
    rintro e w8 ⟨rfl, b8⟩
    have b8f := below_first b8
    have B8 := below_next B5 b8f
    have k8 := has_below k5 b8f (by omega)
    have p8 := has_below p5 b8f z5
    have z8 : w5.heap.size < w8.heap.size := size_first b8
    have S8 := S5.below b8f
    have R8 := R5.below b8f (by omega)
    clear k5 p5 b8 b8f S5 R5 h5
    have F5 := sl_f S8
    have R5' := R8.here
    go_wp2_with fail
    have KP : ∀ V, Below w8.heap.size w8 V → (Below w8.heap.size w8 V ∧ (∀ i, V.cell? ⟨w.heap.size, i, none⟩ = (#[.slice aw ws.length cw, .int .i64 semi, .int .i64 toh, .int .i64 top, .bool cyc, .int .i64 scan, .int .i64 old, .int .i64 copied, .int .i64 serial, .slice ar rs.length cr] : Array Value)[i]?) ∧ (∀ i, V.cell? ⟨w4.heap.size, i, none⟩ = (#[.slice (some ⟨x3, 0, none⟩) ws.length ws.length, .int .i64 semi, .int .i64 toh, .int .i64 top, .bool cyc, .int .i64 scan, .int .i64 old, .int .i64 copied, .int .i64 serial, .slice (some ⟨x4, 0, none⟩) rs.length rs.length] : Array Value)[i]?)) := fun V hV => ⟨hV, has_below k8 hV (by omega), has_below p8 hV (by omega)⟩
    have b5' := (Below.refl w8.heap.size w8).drew
    clear k8 p8 S8 R8 HSZ HSP HIM
    go_region_held3 (fun V => Below w8.heap.size w8 V ∧ (∀ i, V.cell? ⟨w.heap.size, i, none⟩ = (#[.slice aw ws.length cw, .int .i64 semi, .int .i64 toh, .int .i64 top, .bool cyc, .int .i64 scan, .int .i64 old, .int .i64 copied, .int .i64 serial, .slice ar rs.length cr] : Array Value)[i]?) ∧ (∀ i, V.cell? ⟨w4.heap.size, i, none⟩ = (#[.slice (some ⟨x3, 0, none⟩) ws.length ws.length, .int .i64 semi, .int .i64 toh, .int .i64 top, .bool cyc, .int .i64 scan, .int .i64 old, .int .i64 copied, .int .i64 serial, .slice (some ⟨x4, 0, none⟩) rs.length rs.length] : Array Value)[i]?)) (first | assumption | exact KP _ b5' | exact KP _ (by assumption)) (first | (go_at_call 22; refine (HTA.out _ (below_next B8 (And.left (by assumption)))).mono ?_; rintro e w6 ⟨x5, x6, rfl, s6, r6, bb⟩; have hB6 := below_next (w := w8) (And.left (by assumption)) bb; clear bb) | (go_at_call 24; refine (eqArena_same _ _ _ _ _ _ _ _ ws.length rs.length (wordAt ws) y _ _ _ _ _ _ _ _ _ (F5.below hB6 (Nat.le_refl _)) (sl_f s6) hn (R5'.below hB6 (Nat.le_refl _)) r6 hn2).mono ?_; rintro e w7 ⟨rfl, bb⟩; have hB7 := below_next (w := w8) hB6 bb; clear bb))
    all_goals
      go_wp2
      go_ret
      exact ⟨rfl, below_next B8 hB7⟩
  · have HSZ : ∀ W, _ := fun W => szArena_any aw ws.length cw semi toh top cyc scan old copied serial ar rs.length cr W hl1 hl2
    rw [if_neg h] at HSZ
    clear hs hrt h hspec himpl
    go_enter Tryz.func5, Tryz.ntmps5
    go_wp2_with (go_at_call 20; refine (HSZ _).mono ?_; rintro e w1 ⟨rfl, b1⟩)
    go_ret
    exact ⟨rfl, below_first b1⟩
end Go.Proofs.YtaapiedminakcaaGreat
